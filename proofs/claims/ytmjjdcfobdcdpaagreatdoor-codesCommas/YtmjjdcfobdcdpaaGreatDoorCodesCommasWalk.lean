/-
  The walk of CodesCommas.
-/
import Derived.Test.YtmjjdcfobdcdpaaGreatDoorCd12
import Derived.Test.YtmjjdcfobdcdpaaGreatDoorByR
namespace Go.Proofs.YtmjjdcfobdcdpaaGreatDoor
open Go.RowKit
set_option linter.unusedSimpArgs false

theorem bare_next {S : List UInt8} {k : Nat} (h : k < S.length) : (S[k] = 44 → bareL (S.take (k + 1)) = bareL (S.take k)) ∧ (S[k] ≠ 44 → bareL (S.take (k + 1)) = bareL (S.take k) ++ [S[k]]) := by
  rw [List.take_succ_eq_append_getElem h, bareL_app]
  constructor
  · intro e; rw [e]; simp [bareL]
  · intro e; simp [bareL, e]
theorem bare_len (S : List UInt8) (k : Nat) : (bareL (S.take k)).length ≤ k := by
  have h1 := List.length_filter_le (fun c => c != 44) (S.take k)
  rw [List.length_take] at h1
  unfold bareL
  omega
set_option maxRecDepth 100000 in
set_option maxHeartbeats 2000000 in
theorem bare_any (S : List UInt8) (w : World) (hs : S.length ≤ 1000) :
    Calls Tryz.prog 19 #[.string ⟨S.toArray⟩] w fun e w' => e = .returned (.string ⟨(bareL S).toArray⟩) ∧ Below w.heap.size w w' := by
  obtain ⟨i0, hi, hz0, hz1, hz2⟩ := info_parts infoU8
  have sz := mk_size S
  go_enter Tryz.func19, Tryz.ntmps19
  go_wp2
  go_loopw [3, 4] (fun v iv wr => ∃ k : Nat, k ≤ S.length ∧ iv = .int .i64 k ∧ wr.ownsRow w.heap.size 5 1 v (bareL (S.take k)).length ((bareL (S.take k)).map byteV) ∧ Below w.heap.size w wr) (fun _ iv _ => S.length - (intOf iv).toNat)
  case atStart => exact ⟨0, Nat.zero_le _, rfl, World.ownsRow_nil _ _ _ _, Below.refl _ w⟩
  case round =>
    obtain ⟨k, hk, rfl, hown, hB⟩ := hrel
    have hl := bare_len S k
    by_cases hlt : k < S.length
    · have g1 : (k : Int) < (S.length : Int) := by omega
      have hx : ∀ h, (⟨S.toArray⟩ : ByteArray)[k]'h = S[k] := fun h => rfl
      obtain ⟨n1, n2⟩ := bare_next hlt
      by_cases c1 : (S[k].toNat : Int) = 44
      · have b1 : ((S[k].toNat : Int) == 44) = true := by rw [c1]; rfl
        have HN := hide (n1 (UInt8.toNat_inj.1 (by show S[k].toNat = 44; omega)))
        clear n1 n2
        go_wp2
        go_roundw
        case rel => exact ⟨k + 1, hlt, by go_num, by rw [HN.out]; exact hown, hB⟩
        case measure => simp [intOf]; omega
      · have b1 : ((S[k].toNat : Int) == 44) = false := by rw [beq_eq_false_iff_ne]; exact c1
        have HN := hide (n2 (fun e => c1 (by rw [e]; rfl)))
        clear n1 n2
        have hbs := hB.size
        go_wp2_with (at_builtin; refine wpList_append_own _ rfl _ _ 84 rfl w.heap.size 5 i0 (.int .u8 0) 1 1 Tryz.underlying84 hi hz0 hz1 hz2 rfl (by decide) _ _ _ rfl (hown.alloc _) ⟨wr.heap.size, 0, none⟩ 1 1 [.int .u8 (S[k].toNat : Int)] rfl rfl (by intro j u hj; match j, hj with | 0, hj => simp at hj; subst hj; simp [Addr.add]) (by intro u hu; simp at hu; subst hu; rfl) (by unfold maxLen; omega) (by omega) (by simp; omega) ?_; intro v' w1 hown' hgrow _)
        obtain ⟨s1, s2⟩ := byte_step _ hB hown hown' hgrow
        go_roundw
        case rel => exact ⟨k + 1, hlt, by go_num, by rw [HN.out, List.length_append]; exact s1, s2⟩
        case measure => simp [intOf]; omega
    · have hk' : k = S.length := by omega
      subst hk'
      rw [List.take_length] at hown
      have g1 : ¬ (S.length : Int) < (S.length : Int) := by omega
      have hconv := row_string hown
      go_wp2
      go_ret
      exact ⟨rfl, hB⟩
def litC : List UInt8 := [35, 44, 35, 35, 48]
def lit0 : List UInt8 := [48]
def psC : List Pc := [⟨1, litC⟩]
def ps0 : List Pc := [⟨1, lit0⟩]
theorem opt_C : secsOpt litC = some [psC] := by kernel_rfl
theorem opt_0 : secsOpt lit0 = some [ps0] := by kernel_rfl
theorem plc_C : plcOf psC = ⟨true, false, 1, 0, 0⟩ := by kernel_rfl
theorem plc_0 : plcOf ps0 = ⟨false, false, 1, 0, 0⟩ := by kernel_rfl
theorem text_C (m : Nat) : secT (plcOf psC) m 0 0 0 [] psC = groupR (Lib.decDigits (m / 1000000)) := by
  rw [plc_C]; unfold psC; rw [secT_one]; unfold numT wholeT; simp only [if_true, Bool.false_eq_true, if_false]; rw [pad_one]
theorem text_0 (m : Nat) : secT (plcOf ps0) m 0 0 0 [] ps0 = Lib.decDigits (m / 1000000) := by
  rw [plc_0]; unfold ps0; rw [secT_one]; unfold numT wholeT; simp only [Bool.false_eq_true, if_false]; rw [pad_one]
/-- What both formats write of a number. -/
theorem commas_num {n : Int} (hf : fitsB n = true) : ∃ S T : List UInt8, AppQ litC 1 n ⟨#[]⟩ false 0 S 0 ∧ AppQ lit0 1 n ⟨#[]⟩ false 0 T 0 ∧ bareL S = T ∧ PlaceOk S ∧ S.length ≤ 1000 := by
  obtain ⟨f1, f2⟩ := fitsB_true hf
  have x0 := absI_nn n
  have x1 := absI_le f1 f2
  obtain ⟨m, r1, r2, r3⟩ := round_fit (n := absI n) (p := 0) (d := 1000000) (K := 1000000000000) (fitsB_of (by omega) x1) x0 (by decide) (by decide) (by decide) (by decide)
  have sC : sizedR psC (max n (-n)) = ((m : Int), 0) := by rw [maxabs]; exact sized_plain (by kernel_rfl) (by kernel_rfl) r1
  have s0 : sizedR ps0 (max n (-n)) = ((m : Int), 0) := by rw [maxabs]; exact sized_plain (by kernel_rfl) (by kernel_rfl) r1
  have cC : (leftS [psC])[chosenR (leftS [psC]).length n]? = some psC := by rw [show chosenR (leftS [psC]).length n = 0 from if_pos (.inl rfl)]; rfl
  have c0 : (leftS [ps0])[chosenR (leftS [ps0]).length n]? = some ps0 := by rw [show chosenR (leftS [ps0]).length n = 0 from if_pos (.inl rfl)]; rfl
  obtain ⟨d1, d2⟩ := dig_noC (dec_all (m / 1000000))
  have hn := dec_ne (m / 1000000)
  have hl := dec_len (u := m / 1000000) (by omega)
  have hg := group_len (Lib.decDigits (m / 1000000)).length (Lib.decDigits (m / 1000000)) []
  have hb := group_bare _ (Lib.decDigits (m / 1000000)) [] (Nat.le_refl _) d1
  have hp := fun b => place_ok b d1 d2 hn
  by_cases h0 : n < 0
  · refine ⟨45 :: groupR (Lib.decDigits (m / 1000000)), 45 :: Lib.decDigits (m / 1000000), ?_, ?_, ?_, hp true, ?_⟩
    · rw [← text_C]; exact .number opt_C (check_num hf) (.inr rfl) (.minus cC (by decide) sC (by omega) ⟨by kernel_rfl, h0⟩)
    · rw [← text_0]; exact .number opt_0 (check_num hf) (.inr rfl) (.minus c0 (by decide) s0 (by omega) ⟨by kernel_rfl, h0⟩)
    · rw [show bareL (45 :: groupR (Lib.decDigits (m / 1000000))) = 45 :: bareL (groupR (Lib.decDigits (m / 1000000))) from rfl]
      unfold groupR
      rw [hb]; simp [bareL]
    · unfold groupR; simp only [List.length_cons, List.length_nil] at *; omega
  · refine ⟨groupR (Lib.decDigits (m / 1000000)), Lib.decDigits (m / 1000000), ?_, ?_, ?_, hp false, ?_⟩
    · rw [← text_C]; exact .number opt_C (check_num hf) (.inr rfl) (.num cC (by decide) sC (by omega) (fun h => h0 h.2))
    · rw [← text_0]; exact .number opt_0 (check_num hf) (.inr rfl) (.num c0 (by decide) s0 (by omega) (fun h => h0 h.2))
    · unfold groupR
      rw [hb]; simp [bareL]
    · unfold groupR; simp only [List.length_nil] at *; omega
theorem commas_all (n : Int) : ∃ (S T : List UInt8) (E : Int), AppQ litC 1 n ⟨#[]⟩ false 0 S E ∧ AppQ lit0 1 n ⟨#[]⟩ false 0 T E ∧ bareL S = T ∧ PlaceOk S ∧ S.length ≤ 1000 := by
  cases hf : fitsB n
  · have hv : checkV 1 n ⟨#[]⟩ false 0 = 2 := by unfold checkV rightB; simp [hf]
    exact ⟨[], [], 2, .wrong opt_C hv, .wrong opt_0 hv, rfl, fun i c h => by simp at h, by simp⟩
  · obtain ⟨S, T, h⟩ := commas_num hf
    exact ⟨S, T, 0, h⟩
set_option maxRecDepth 100000 in
set_option maxHeartbeats 4000000 in
theorem codesCommas_walk (n : Int) (w : World) (h : EnvC w) :
    Calls Tryz.prog 6 #[.int .i64 n] w fun e w' => e = .returned (.bool true) ∧ Below w.heap.size w w' := by
  have HL : Hid (∀ W : World, Below w.heap.size w W → Calls Tryz.prog 13 #[] W fun e w' => e = .returned (.bool true) ∧ Below W.heap.size W w') := fun W hW => lives_any W (h.below hW)
  have HN : Hid (∀ (n : Int) (W : World), Calls Tryz.prog 17 #[.int .i64 n] W fun e w' => e = .returned (.agg #[.int .i64 1, .int .i64 n, .string ⟨#[]⟩, .bool false, .int .i64 0]) ∧ Below W.heap.size W w') := hide lnumber_any
  obtain ⟨S, T, E, qa, qb, hbr, hpl, hsl⟩ := commas_all n
  have HA : Hid (∀ W : World, Below w.heap.size w W → Calls Tryz.prog 14 #[.string ⟨#[35, 44, 35, 35, 48]⟩, .agg #[.int .i64 1, .int .i64 n, .string ⟨#[]⟩, .bool false, .int .i64 0]] W fun e w' => e = .returned (.tuple #[.string ⟨S.toArray⟩, .int .i64 E]) ∧ Below W.heap.size W w') := fun W hW => Apply_any qa W (by decide) (h.below hW).cell (h.below hW).tab (h.below hW).len (by decide)
  have HD : Hid (∀ W : World, Below w.heap.size w W → Calls Tryz.prog 14 #[.string ⟨#[48]⟩, .agg #[.int .i64 1, .int .i64 n, .string ⟨#[]⟩, .bool false, .int .i64 0]] W fun e w' => e = .returned (.tuple #[.string ⟨T.toArray⟩, .int .i64 E]) ∧ Below W.heap.size W w') := fun W hW => Apply_any qb W (by decide) (h.below hW).cell (h.below hW).tab (h.below hW).len (by decide)
  have HR : Hid (∀ W : World, Calls Tryz.prog 19 #[.string ⟨S.toArray⟩] W fun e w' => e = .returned (.string ⟨T.toArray⟩) ∧ Below W.heap.size W w') := fun W => hbr ▸ bare_any S W hsl
  have sz := mk_size S
  have HO := hide hpl
  have HB := hide (Below.refl w.heap.size w)
  clear qa qb hbr hpl h
  go_enter Tryz.func6, Tryz.ntmps6
  go_wp2_with (first | (go_at_call 17; refine (HN.out _ _).mono ?_; rintro e w1 ⟨rfl, hb1⟩; replace HB := hide (up HB.out hb1); clear hb1) | (first | (go_at_call 14; refine (HA.out _ HB.out).mono ?_; rintro e w3 ⟨rfl, hb1⟩; replace HB := hide (up HB.out hb1); clear hb1; clear HA) | (go_at_call 14; refine (HD.out _ HB.out).mono ?_; rintro e w3 ⟨rfl, hb1⟩; replace HB := hide (up HB.out hb1); clear hb1; clear HD)) | (go_at_call 19; refine (HR.out _).mono ?_; rintro e w4 ⟨rfl, hb1⟩; replace HB := hide (up HB.out hb1); clear hb1))
  go_loopw [7] (fun iv wr => ∃ k : Nat, k ≤ S.length ∧ iv = .int .i64 k ∧ Below w.heap.size w wr) (fun iv _ => S.length - (intOf iv).toNat)
  case atStart => exact ⟨0, Nat.zero_le _, rfl, HB.out⟩
  case round =>
    obtain ⟨k, hk, rfl, hB⟩ := hrel
    replace HB := hide hB
    clear hB
    by_cases hlt : k < S.length
    · have g1 : (k : Int) < (S.length : Int) := by omega
      have hx : ∀ h, (⟨S.toArray⟩ : ByteArray)[k]'h = S[k] := fun h => rfl
      have hmod : ∀ D : Int, D = ((S.length - k : Nat) : Int) → IntKind.i64.wrap D = D ∧ D.tmod 4 = (((S.length - k) % 4 : Nat) : Int) := fun D h => by
        subst h
        exact ⟨by rw [IntKind.wrap_i64]; omega, by rw [Int.tmod_eq_emod_of_nonneg (by omega)]; rfl⟩
      rcases HO.out k _ (List.getElem?_eq_getElem hlt) with ⟨e1, e2, e3, e4⟩ | ⟨e1, e2⟩
      · rw [e2] at hmod
        have b1 : ((S[k].toNat : Int) == 44) = true := by rw [e1]; rfl
        have g3 : (0 : Int) < (k : Int) := by omega
        have e5 := e4 S[k - 1] (List.getElem?_eq_getElem (by omega))
        obtain ⟨m, rfl⟩ : ∃ m, k = m + 1 := ⟨k - 1, by omega⟩
        have hx1 : ∀ h, (⟨S.toArray⟩ : ByteArray)[m]'h = S[m] := fun h => rfl
        have hi1 : ((m + 1 : Nat) : Int) - 1 = (m : Int) := by omega
        have hw1 : IntKind.i64.wrap (m : Int) = (m : Int) := by rw [IntKind.wrap_i64]; omega
        have g5 : (0 : Int) ≤ (m : Int) := by omega
        have b5 : ((S[m].toNat : Int) == 45) = false := by rw [beq_eq_false_iff_ne]; exact fun q => e5 (UInt8.toNat_inj.1 (by show S[m].toNat = 45; omega))
        have b6 : ((S[m].toNat : Int) != 45) = true := by rw [bne, b5]; rfl
        have b7 : ¬ (S[m].toNat : Int) = 45 := fun q => by rw [q] at b5; cases b5
        have b8 : (S[m + 1].toNat : Int) = 44 := by rw [e1]; rfl
        have g4 : (m : Int) < (S.length : Int) := by omega
        obtain ⟨D, hD⟩ : ∃ D : Int, (S.length : Int) - ((m : Int) + 1) = D := ⟨_, rfl⟩
        obtain ⟨d1, d2⟩ := hmod D (by omega)
        have d3 : D.tmod 4 = 0 := d2
        clear hmod d2
        clear e4 HO
        go_wp2
        go_region_held3 (fun X => Below w.heap.size w X) (first | exact HB.out | assumption | exact Below.drew (by assumption)) (fail)
        all_goals go_wp2
        all_goals go_roundw
        all_goals first | exact ⟨m + 1 + 1, hlt, by go_num, by assumption⟩ | (simp [intOf]; omega)
      · have b1 : ((S[k].toNat : Int) == 44) = false := by rw [beq_eq_false_iff_ne]; exact fun q => e1 (UInt8.toNat_inj.1 (by show S[k].toNat = 44; omega))
        by_cases e6 : (S.length - k) % 4 = 0
        · obtain rfl : k = 0 := e2.resolve_left (fun h => h e6)
          rw [e6] at hmod
          obtain ⟨d1, d2⟩ := hmod (S.length : Int) (by omega)
          have d3 : (S.length : Int).tmod 4 = 0 := d2
          clear HO hmod d2
          go_wp2
          refine wp_region_held_drew (S := fun X => Below w.heap.size w X) (by kernel_rfl) HB.out.drew (fun hHeld => ?_)
          (refine takeD (i := 0) (some 35) rfl rfl (by kernel_rfl) (by kernel_rfl) (by kernel_rfl) (fun _ _ _ h => h) (v := ?_) rfl ?_ (by assumption) ?_; rotate_left; (focus (intro w hSw; (try dsimp only at hSw); first | (go_simp; done) | (go_simp; with_reducible rfl))); try simp only [Act.put, List.setIfInBounds_toArray, List.set_cons_zero, List.set_cons_succ]); (refine takeD (i := 1) (some 36) rfl rfl (by kernel_rfl) (by kernel_rfl) (by kernel_rfl) (fun _ _ _ h => h) (v := ?_) rfl ?_ (by assumption) ?_; rotate_left; (focus (intro w hSw; (try dsimp only at hSw); first | (go_simp; done) | (go_simp; with_reducible rfl))); try simp only [Act.put, List.setIfInBounds_toArray, List.set_cons_zero, List.set_cons_succ]); (refine takeD (i := 2) (some 37) rfl rfl (by kernel_rfl) (by kernel_rfl) (by kernel_rfl) (fun _ _ _ h => h) (v := ?_) rfl ?_ (by assumption) ?_; rotate_left; (focus (intro w hSw; (try dsimp only at hSw); first | (go_simp; done) | (go_simp; with_reducible rfl))); try simp only [Act.put, List.setIfInBounds_toArray, List.set_cons_zero, List.set_cons_succ]); (refine takeD (i := 3) (some 38) rfl rfl (by kernel_rfl) (by kernel_rfl) (by kernel_rfl) (fun _ _ _ h => h) (v := ?_) rfl ?_ (by assumption) ?_; rotate_left; (focus (intro w hSw; (try dsimp only at hSw); first | (go_simp; done) | (go_simp; with_reducible rfl))); try simp only [Act.put, List.setIfInBounds_toArray, List.set_cons_zero, List.set_cons_succ]); (refine takeD (i := 4) (some 39) rfl rfl (by kernel_rfl) (by kernel_rfl) (by kernel_rfl) (fun _ _ _ h => h) (v := ?_) rfl ?_ (by assumption) ?_; rotate_left; (focus (intro w hSw; (try dsimp only at hSw); first | (go_simp; done) | (go_simp; with_reducible rfl))); try simp only [Act.put, List.setIfInBounds_toArray, List.set_cons_zero, List.set_cons_succ]); (refine takeD (i := 5) (some 40) rfl rfl (by kernel_rfl) (by kernel_rfl) (by kernel_rfl) (fun _ _ _ h => h) (v := ?_) rfl ?_ (by assumption) ?_; rotate_left; (focus (intro w hSw; (try dsimp only at hSw); first | (go_simp; done) | (go_simp; with_reducible rfl))); try simp only [Act.put, List.setIfInBounds_toArray, List.set_cons_zero, List.set_cons_succ]); (refine takeD (i := 6) (some 41) rfl rfl (by kernel_rfl) (by kernel_rfl) (by kernel_rfl) (fun _ _ _ h => h) (v := ?_) rfl ?_ (by assumption) ?_; rotate_left; (focus (intro w hSw; (try dsimp only at hSw); first | (go_simp; done) | (go_simp; with_reducible rfl))); try simp only [Act.put, List.setIfInBounds_toArray, List.set_cons_zero, List.set_cons_succ]); (refine takeD (i := 7) (some 42) rfl rfl (by kernel_rfl) (by kernel_rfl) (by kernel_rfl) (fun _ _ _ h => h) (v := ?_) rfl ?_ (by assumption) ?_; rotate_left; (focus (intro w hSw; (try dsimp only at hSw); first | (go_simp; done) | (go_simp; with_reducible rfl))); try simp only [Act.put, List.setIfInBounds_toArray, List.set_cons_zero, List.set_cons_succ]); (refine takeD (i := 8) (some 43) rfl rfl (by kernel_rfl) (by kernel_rfl) (by kernel_rfl) (fun _ _ _ h => h) (v := ?_) rfl ?_ (by assumption) ?_; rotate_left; (focus (intro w hSw; (try dsimp only at hSw); first | (go_simp; done) | (go_simp; with_reducible rfl))); try simp only [Act.put, List.setIfInBounds_toArray, List.set_cons_zero, List.set_cons_succ]); (refine takeD (i := 9) (some 44) rfl rfl (by kernel_rfl) (by kernel_rfl) (by kernel_rfl) (fun _ _ _ h => h) (v := ?_) rfl ?_ (by assumption) ?_; rotate_left; (focus (intro w hSw; (try dsimp only at hSw); first | (go_simp; done) | (go_simp; with_reducible rfl))); try simp only [Act.put, List.setIfInBounds_toArray, List.set_cons_zero, List.set_cons_succ]); (refine takeD (i := 10) (some 45) rfl rfl (by kernel_rfl) (by kernel_rfl) (by kernel_rfl) (fun _ _ _ h => h) (v := ?_) rfl ?_ (by assumption) ?_; rotate_left; (focus (intro w hSw; (try dsimp only at hSw); first | (go_simp; done) | (go_simp; with_reducible rfl))); try simp only [Act.put, List.setIfInBounds_toArray, List.set_cons_zero, List.set_cons_succ]); (refine takeD (i := 11) (some 46) rfl rfl (by kernel_rfl) (by kernel_rfl) (by kernel_rfl) (fun _ _ _ h => h) (v := ?_) rfl ?_ (by assumption) ?_; rotate_left; (focus (intro w hSw; (try dsimp only at hSw); first | (go_simp; done) | (go_simp; with_reducible rfl))); try simp only [Act.put, List.setIfInBounds_toArray, List.set_cons_zero, List.set_cons_succ]); (refine takeD (i := 12) (some 47) rfl rfl (by kernel_rfl) (by kernel_rfl) (by kernel_rfl) (fun _ _ _ h => h) (v := ?_) rfl ?_ (by assumption) ?_; rotate_left; (focus (intro w hSw; (try dsimp only at hSw); first | (go_simp; done) | (go_simp; with_reducible rfl))); try simp only [Act.put, List.setIfInBounds_toArray, List.set_cons_zero, List.set_cons_succ]); (refine takeD (i := 13) (some 48) rfl rfl (by kernel_rfl) (by kernel_rfl) (by kernel_rfl) (fun _ _ _ h => h) (v := ?_) rfl ?_ (by assumption) ?_; rotate_left; (focus (intro w hSw; (try dsimp only at hSw); first | (go_simp; done) | (go_simp; with_reducible rfl))); try simp only [Act.put, List.setIfInBounds_toArray, List.set_cons_zero, List.set_cons_succ]); (refine takeD (i := 14) (some 49) rfl rfl (by kernel_rfl) (by kernel_rfl) (by kernel_rfl) (fun _ _ _ h => h) (v := ?_) rfl ?_ (by assumption) ?_; rotate_left; (focus (intro w hSw; (try dsimp only at hSw); first | (go_simp; done) | (go_simp; with_reducible rfl))); try simp only [Act.put, List.setIfInBounds_toArray, List.set_cons_zero, List.set_cons_succ]); (refine skipD (i := 15) (some 50) rfl rfl (by kernel_rfl) (by kernel_rfl) (by kernel_rfl) (fun _ _ _ h => h) rfl (by assumption) ?_; try simp only [Act.put, List.setIfInBounds_toArray, List.set_cons_zero, List.set_cons_succ]); (refine skipD (i := 16) (some 51) rfl rfl (by kernel_rfl) (by kernel_rfl) (by kernel_rfl) (fun _ _ _ h => h) rfl (by assumption) ?_; try simp only [Act.put, List.setIfInBounds_toArray, List.set_cons_zero, List.set_cons_succ]); (refine skipD (i := 17) (some 52) rfl rfl (by kernel_rfl) (by kernel_rfl) (by kernel_rfl) (fun _ _ _ h => h) rfl (by assumption) ?_; try simp only [Act.put, List.setIfInBounds_toArray, List.set_cons_zero, List.set_cons_succ]); (refine skipD (i := 18) (some 53) rfl rfl (by kernel_rfl) (by kernel_rfl) (by kernel_rfl) (fun _ _ _ h => h) rfl (by assumption) ?_; try simp only [Act.put, List.setIfInBounds_toArray, List.set_cons_zero, List.set_cons_succ]); (refine skipD (i := 19) (some 54) rfl rfl (by kernel_rfl) (by kernel_rfl) (by kernel_rfl) (fun _ _ _ h => h) rfl (by assumption) ?_; try simp only [Act.put, List.setIfInBounds_toArray, List.set_cons_zero, List.set_cons_succ]); (refine takeD (i := 20) (some 55) rfl rfl (by kernel_rfl) (by kernel_rfl) (by kernel_rfl) (fun _ _ _ h => h) (v := ?_) rfl ?_ (by assumption) ?_; rotate_left; (focus (intro w hSw; (try dsimp only at hSw); first | (go_simp; done) | (go_simp; with_reducible rfl))); try simp only [Act.put, List.setIfInBounds_toArray, List.set_cons_zero, List.set_cons_succ]); (refine takeD (i := 21) (some 56) rfl rfl (by kernel_rfl) (by kernel_rfl) (by kernel_rfl) (fun _ _ _ h => h) (v := ?_) rfl ?_ (by assumption) ?_; rotate_left; (focus (intro w hSw; (try dsimp only at hSw); first | (go_simp; done) | (go_simp; with_reducible rfl))); try simp only [Act.put, List.setIfInBounds_toArray, List.set_cons_zero, List.set_cons_succ]); refine wpAnyH_done (by kernel_rfl) ?_ _
          all_goals go_wp2
          all_goals go_roundw
          all_goals first | exact ⟨1, hlt, by go_num, by assumption⟩ | (simp [intOf]; omega)
        · have g6 : ((((S.length - k) % 4 : Nat) : Int) == 0) = false := by rw [beq_eq_false_iff_ne]; omega
          have g7 : ¬ (((S.length - k) % 4 : Nat) : Int) = 0 := by omega
          obtain ⟨D, hD⟩ : ∃ D : Int, (S.length : Int) - (k : Int) = D := ⟨_, rfl⟩
          obtain ⟨d1, d2⟩ := hmod D (by omega)
          rw [← d2] at g6 g7
          clear HO hmod d2
          go_wp2
          refine wp_region_held_drew (S := fun X => Below w.heap.size w X) (by kernel_rfl) HB.out.drew (fun hHeld => ?_)
          (refine takeD (i := 0) (some 35) rfl rfl (by kernel_rfl) (by kernel_rfl) (by kernel_rfl) (fun _ _ _ h => h) (v := ?_) rfl ?_ (by assumption) ?_; rotate_left; (focus (intro w hSw; (try dsimp only at hSw); first | (go_simp; done) | (go_simp; with_reducible rfl))); try simp only [Act.put, List.setIfInBounds_toArray, List.set_cons_zero, List.set_cons_succ]); (refine takeD (i := 1) (some 36) rfl rfl (by kernel_rfl) (by kernel_rfl) (by kernel_rfl) (fun _ _ _ h => h) (v := ?_) rfl ?_ (by assumption) ?_; rotate_left; (focus (intro w hSw; (try dsimp only at hSw); first | (go_simp; done) | (go_simp; with_reducible rfl))); try simp only [Act.put, List.setIfInBounds_toArray, List.set_cons_zero, List.set_cons_succ]); (refine takeD (i := 2) (some 37) rfl rfl (by kernel_rfl) (by kernel_rfl) (by kernel_rfl) (fun _ _ _ h => h) (v := ?_) rfl ?_ (by assumption) ?_; rotate_left; (focus (intro w hSw; (try dsimp only at hSw); first | (go_simp; done) | (go_simp; with_reducible rfl))); try simp only [Act.put, List.setIfInBounds_toArray, List.set_cons_zero, List.set_cons_succ]); (refine takeD (i := 3) (some 38) rfl rfl (by kernel_rfl) (by kernel_rfl) (by kernel_rfl) (fun _ _ _ h => h) (v := ?_) rfl ?_ (by assumption) ?_; rotate_left; (focus (intro w hSw; (try dsimp only at hSw); first | (go_simp; done) | (go_simp; with_reducible rfl))); try simp only [Act.put, List.setIfInBounds_toArray, List.set_cons_zero, List.set_cons_succ]); (refine takeD (i := 4) (some 39) rfl rfl (by kernel_rfl) (by kernel_rfl) (by kernel_rfl) (fun _ _ _ h => h) (v := ?_) rfl ?_ (by assumption) ?_; rotate_left; (focus (intro w hSw; (try dsimp only at hSw); first | (go_simp; done) | (go_simp; with_reducible rfl))); try simp only [Act.put, List.setIfInBounds_toArray, List.set_cons_zero, List.set_cons_succ]); (refine takeD (i := 5) (some 40) rfl rfl (by kernel_rfl) (by kernel_rfl) (by kernel_rfl) (fun _ _ _ h => h) (v := ?_) rfl ?_ (by assumption) ?_; rotate_left; (focus (intro w hSw; (try dsimp only at hSw); first | (go_simp; done) | (go_simp; with_reducible rfl))); try simp only [Act.put, List.setIfInBounds_toArray, List.set_cons_zero, List.set_cons_succ]); (refine takeD (i := 6) (some 41) rfl rfl (by kernel_rfl) (by kernel_rfl) (by kernel_rfl) (fun _ _ _ h => h) (v := ?_) rfl ?_ (by assumption) ?_; rotate_left; (focus (intro w hSw; (try dsimp only at hSw); first | (go_simp; done) | (go_simp; with_reducible rfl))); try simp only [Act.put, List.setIfInBounds_toArray, List.set_cons_zero, List.set_cons_succ]); (refine takeD (i := 7) (some 42) rfl rfl (by kernel_rfl) (by kernel_rfl) (by kernel_rfl) (fun _ _ _ h => h) (v := ?_) rfl ?_ (by assumption) ?_; rotate_left; (focus (intro w hSw; (try dsimp only at hSw); first | (go_simp; done) | (go_simp; with_reducible rfl))); try simp only [Act.put, List.setIfInBounds_toArray, List.set_cons_zero, List.set_cons_succ]); (refine takeD (i := 8) (some 43) rfl rfl (by kernel_rfl) (by kernel_rfl) (by kernel_rfl) (fun _ _ _ h => h) (v := ?_) rfl ?_ (by assumption) ?_; rotate_left; (focus (intro w hSw; (try dsimp only at hSw); first | (go_simp; done) | (go_simp; with_reducible rfl))); try simp only [Act.put, List.setIfInBounds_toArray, List.set_cons_zero, List.set_cons_succ]); (refine takeD (i := 9) (some 44) rfl rfl (by kernel_rfl) (by kernel_rfl) (by kernel_rfl) (fun _ _ _ h => h) (v := ?_) rfl ?_ (by assumption) ?_; rotate_left; (focus (intro w hSw; (try dsimp only at hSw); first | (go_simp; done) | (go_simp; with_reducible rfl))); try simp only [Act.put, List.setIfInBounds_toArray, List.set_cons_zero, List.set_cons_succ]); (refine takeD (i := 10) (some 45) rfl rfl (by kernel_rfl) (by kernel_rfl) (by kernel_rfl) (fun _ _ _ h => h) (v := ?_) rfl ?_ (by assumption) ?_; rotate_left; (focus (intro w hSw; (try dsimp only at hSw); first | (go_simp; done) | (go_simp; with_reducible rfl))); try simp only [Act.put, List.setIfInBounds_toArray, List.set_cons_zero, List.set_cons_succ]); (refine skipD (i := 11) (some 46) rfl rfl (by kernel_rfl) (by kernel_rfl) (by kernel_rfl) (fun _ _ _ h => h) rfl (by assumption) ?_; try simp only [Act.put, List.setIfInBounds_toArray, List.set_cons_zero, List.set_cons_succ]); (refine skipD (i := 12) (some 47) rfl rfl (by kernel_rfl) (by kernel_rfl) (by kernel_rfl) (fun _ _ _ h => h) rfl (by assumption) ?_; try simp only [Act.put, List.setIfInBounds_toArray, List.set_cons_zero, List.set_cons_succ]); (refine takeD (i := 13) (some 48) rfl rfl (by kernel_rfl) (by kernel_rfl) (by kernel_rfl) (fun _ _ _ h => h) (v := ?_) rfl ?_ (by assumption) ?_; rotate_left; (focus (intro w hSw; (try dsimp only at hSw); first | (go_simp; done) | (go_simp; with_reducible rfl))); try simp only [Act.put, List.setIfInBounds_toArray, List.set_cons_zero, List.set_cons_succ]); (refine takeD (i := 14) (some 49) rfl rfl (by kernel_rfl) (by kernel_rfl) (by kernel_rfl) (fun _ _ _ h => h) (v := ?_) rfl ?_ (by assumption) ?_; rotate_left; (focus (intro w hSw; (try dsimp only at hSw); first | (go_simp; done) | (go_simp; with_reducible rfl))); try simp only [Act.put, List.setIfInBounds_toArray, List.set_cons_zero, List.set_cons_succ]); (refine skipD (i := 15) (some 50) rfl rfl (by kernel_rfl) (by kernel_rfl) (by kernel_rfl) (fun _ _ _ h => h) rfl (by assumption) ?_; try simp only [Act.put, List.setIfInBounds_toArray, List.set_cons_zero, List.set_cons_succ]); (refine skipD (i := 16) (some 51) rfl rfl (by kernel_rfl) (by kernel_rfl) (by kernel_rfl) (fun _ _ _ h => h) rfl (by assumption) ?_; try simp only [Act.put, List.setIfInBounds_toArray, List.set_cons_zero, List.set_cons_succ]); (refine skipD (i := 17) (some 52) rfl rfl (by kernel_rfl) (by kernel_rfl) (by kernel_rfl) (fun _ _ _ h => h) rfl (by assumption) ?_; try simp only [Act.put, List.setIfInBounds_toArray, List.set_cons_zero, List.set_cons_succ]); (refine skipD (i := 18) (some 53) rfl rfl (by kernel_rfl) (by kernel_rfl) (by kernel_rfl) (fun _ _ _ h => h) rfl (by assumption) ?_; try simp only [Act.put, List.setIfInBounds_toArray, List.set_cons_zero, List.set_cons_succ]); (refine skipD (i := 19) (some 54) rfl rfl (by kernel_rfl) (by kernel_rfl) (by kernel_rfl) (fun _ _ _ h => h) rfl (by assumption) ?_; try simp only [Act.put, List.setIfInBounds_toArray, List.set_cons_zero, List.set_cons_succ]); (refine takeD (i := 20) (some 55) rfl rfl (by kernel_rfl) (by kernel_rfl) (by kernel_rfl) (fun _ _ _ h => h) (v := ?_) rfl ?_ (by assumption) ?_; rotate_left; (focus (intro w hSw; (try dsimp only at hSw); first | (go_simp; done) | (go_simp; with_reducible rfl))); try simp only [Act.put, List.setIfInBounds_toArray, List.set_cons_zero, List.set_cons_succ]); (refine takeD (i := 21) (some 56) rfl rfl (by kernel_rfl) (by kernel_rfl) (by kernel_rfl) (fun _ _ _ h => h) (v := ?_) rfl ?_ (by assumption) ?_; rotate_left; (focus (intro w hSw; (try dsimp only at hSw); first | (go_simp; done) | (go_simp; with_reducible rfl))); try simp only [Act.put, List.setIfInBounds_toArray, List.set_cons_zero, List.set_cons_succ]); refine wpAnyH_done (by kernel_rfl) ?_ _
          all_goals go_wp2
          all_goals go_roundw
          all_goals first | exact ⟨k + 1, hlt, by go_num, by assumption⟩ | (simp [intOf]; omega)
    · have g1 : ¬ (k : Int) < (S.length : Int) := by omega
      go_wp2_with (first | (go_at_call 13; refine (HL.out _ HB.out).mono ?_; rintro e w9 ⟨rfl, hb1⟩; replace HB := hide (up HB.out hb1); clear hb1))
      go_ret
      exact ⟨rfl, HB.out⟩
end Go.Proofs.YtmjjdcfobdcdpaaGreatDoor
