/-
  The answer's Read.
-/
import Derived.Test.YtnhaapcpklfkpaaGreatDoorRc8
namespace Go.Proofs.YtnhaapcpklfkpaaGreatDoor
open Go.RowKit
set_option linter.unusedSimpArgs false

theorem info_rpiece : (Tryz.prog.info? 79).map (fun i => (i.zero, i.size, i.bytes)) = some (some (.agg #[.int .i64 0, .string ⟨#[]⟩]), 2, 24) := by kernel_rfl
theorem info_rsec : (Tryz.prog.info? 45).map (fun i => (i.zero, i.size, i.bytes)) = some (some (.slice none 0 0), 1, 24) := by kernel_rfl
theorem rd_first {w : World} : RR w.heap.size (w.alloc (Obj.cells #[Value.slice none 0 0] 45)) w.heap.size 1 [((.slice none 0 0 : Value), ([] : List Pc))] #[Value.slice none 0 0] := by
  refine ⟨Nat.le_refl _, World.alloc_heap_new _ _, rfl, Nat.le_refl _, by unfold maxLen; omega, fun i x hx => ?_, fun i x hx => ?_, fun i j x y hx hy hij => ?_⟩
  · match i, hx with
    | 0, hx => cases hx; simp
  · match i, hx with
    | 0, hx => cases hx; exact World.ownsRow_nil _ _ _ _
  · match i, hx with
    | 0, hx => cases hx; exact .inl rfl
theorem rtaken_pre {n₀ : Nat} {W WA w4 : World} {g cap : Nat} {G0 : List (Value × List Pc)} {u : Value} {ps : List Pc} {C : Array Value} (h : RR n₀ W g cap (G0 ++ [(u, ps)]) C) (hA : Below W.heap.size W WA) (hg : WA.grownBy w4 u.ownBlock) :
    w4.cell? ⟨g, G0.length, none⟩ = some u ∧ ∀ o, w4.frozen? ⟨g, o, none⟩ = false := by
  have hk := h.keep (KC.of_below hA)
  have hgs : g < WA.heap.size := (Array.getElem?_eq_some_iff.1 hk.row).1
  have e := hg.block g hgs (ne_row (hk.ug (snoc_last G0 (u, ps))))
  exact ⟨(World.cell?_of_block (a := ⟨g, G0.length, none⟩) e).trans (hk.cells _ _ (snoc_last G0 (u, ps))), fun o => by simp [World.frozen?, e.trans hk.row]⟩
theorem pcs_of' {t : TypeId} {W : World} {n₀ : Nat} {u : Value} {ps : List Pc} (h : W.ownsRow n₀ t 2 u ps.length (ps.flatMap pcC)) : PcsAt W u ps := by
  rcases h.2 with ⟨e, hn⟩ | ⟨g, cap, cur, e1, e2, e3, e4, e5, e6, e7⟩
  · subst e
    exact ⟨none, 0, by rw [hn], .inl (List.eq_nil_of_length_eq_zero hn)⟩
  · subst e1
    refine ⟨_, cap, rfl, .inr ⟨g, rfl, (Array.getElem?_eq_some_iff.1 e3).1, fun i q hq => ?_⟩⟩
    have hi := (List.getElem?_eq_some_iff.1 hq).1
    obtain ⟨h1, h2⟩ := flat_get hq
    exact ⟨(h.cellAt (i * 2) (by omega)).trans h1, (h.cellAt (i * 2 + 1) (by omega)).trans h2⟩
theorem secs_no5 : ∀ (n : Nat) (ps : List Pc), ps.length ≤ n → ∀ s ∈ secsR ps, ∀ q ∈ s, q.k ≠ 5
  | 0, ps, h => by
    have : ps = [] := List.eq_nil_of_length_eq_zero (by omega)
    subst this
    simp [secsR, secsF]
  | n + 1, ps, h => by
    rcases List.eq_nil_or_concat ps with rfl | ⟨qs, p, rfl⟩
    · simp [secsR, secsF]
    · have ih := secs_no5 n qs (by simp at h; omega)
      rw [List.concat_eq_append]
      intro s hs q hqs
      by_cases hk : p.k = 5
      · rw [secsR_part hk] at hs
        rcases List.mem_append.1 hs with z | z
        · exact ih s z q hqs
        · simp at z; subst z; cases hqs
      · rw [secsR_piece hk] at hs
        have e : secsR qs = (secsF qs).1 ++ [(secsF qs).2] := rfl
        rw [e] at ih
        rcases List.mem_append.1 hs with z | z
        · exact ih s (List.mem_append_left _ z) q hqs
        · simp at z
          subst z
          rcases List.mem_append.1 hqs with z | z
          · exact ih _ (by simp) q z
          · simp at z; subst z; exact hk
theorem kk_lt {a : Nat} (h : a ≤ 5) (h5 : a ≠ 5) : kk a < 5 := by
  have h1 : a = 0 ∨ a = 1 ∨ a = 2 ∨ a = 3 ∨ a = 4 := by omega
  rcases h1 with rfl | rfl | rfl | rfl | rfl <;> decide
/-- What Read's first loop ends with. -/
def ReadQ1 (n₀ : Nat) (w : World) (S : List UInt8) (v : Value) (W : World) : Prop := ∃ (pre : List Pc) (g cap : Nat) (G : List (Value × List Pc)), v = .slice (some ⟨g, 0, none⟩) G.length cap ∧ IH n₀ w S pre S.length g cap G W
/-- What Read tells. -/
def ReadT (n₀ : Nat) (_w : World) (S : List UInt8) (e : Ending) (W : World) : Prop :=
  if 60 < S.length then e = .returned (.tuple #[.slice none 0 0, .int .i64 7]) else
  match readR S with
  | none => e = .returned (.tuple #[.slice none 0 0, .int .i64 5])
  | some ss => ∃ (g cap : Nat) (G : List (Value × List Pc)) (C : Array Value), e = .returned (.tuple #[.slice (some ⟨g, 0, none⟩) G.length cap, .int .i64 0]) ∧ RR n₀ W g cap G C ∧ G.map Prod.snd = ss.map (·.map kkP)
theorem rread_none {S : List UInt8} {pre : List Pc} {a : Nat} (h : Rd S pre (S.drop a)) (ha : a < S.length) (hf : firstR (S.drop a) = none) : readR S = none := by
  have e := rd_pieces h
  rw [pieces_none (by intro q; have := congrArg List.length q; simp at this; omega) hf] at e
  unfold readR
  rw [e]; rfl
theorem rread_bad {S : List UInt8} {pre : List Pc} {a k pk : Nat} {pt : List UInt8} (h : Rd S pre (S.drop a)) (hf : firstR (S.drop a) = some (⟨pk, pt⟩, k)) (hb : pk = 1 ∧ placeB pt = false) : readR S = none := by
  have e := rd_pieces (h.more hf)
  unfold readR
  rw [e]
  cases piecesR ((S.drop a).drop k) with
  | none => rfl
  | some xs =>
    simp only [Option.map_some]
    rw [if_neg]
    simp [hb.1, hb.2]
theorem rread_end {S : List UInt8} {pre : List Pc} (h : Rd S pre (S.drop S.length)) (hok : pre.all okP = true) : readR S = if (secsR pre).length ≤ 3 ∧ (secsR pre).all rightS = true then some (secsR pre) else none := by
  have e := rd_pieces h
  rw [List.drop_length, pieces_nil] at e
  unfold readR
  rw [e]
  simp only [Option.map_some, List.append_nil]
  have e2 : pre.all (fun p => p.k != 1 || placeB p.t) = true := hok
  rw [e2]
  by_cases a : (secsR pre).length ≤ 3 <;> cases b : (secsR pre).all rightS <;> simp [a]
set_option maxRecDepth 100000 in
set_option maxHeartbeats 8000000 in
theorem rRead_any (S : List UInt8) (w : World) :
    Calls Tryz.prog 11 #[.string ⟨S.toArray⟩] w fun e w' => ReadT w.heap.size w S e w' ∧ Below w.heap.size w w' := by
  have sz := mk_size S
  by_cases hl : 60 < S.length
  · have gl : (60 : Int) < (S.length : Int) := by omega
    have HT0 : Hid (∀ W : World, ReadT w.heap.size w S (.returned (.tuple #[.slice none 0 0, .int .i64 7])) W) := by intro W; unfold ReadT; rw [if_pos hl]
    go_enter Tryz.func11, Tryz.ntmps11
    go_wp2
    refine bodyPost_ret (v := .tuple #[.slice none 0 0, .int .i64 7]) (by simp [results, Tryz.results11, go_sem]) rfl ⟨HT0.out _, Below.refl _ _⟩
  have gl : ¬ (60 : Int) < (S.length : Int) := by omega
  obtain ⟨i1, hj1, hj2, hj3, hj4⟩ := info_partsC info_rsec
  obtain ⟨i0, hinf, hz0, hz1, hz2⟩ := info_partsC info_rpiece
  have HT : Hid (∀ (e : Ending) (W : World), (match readR S with | none => e = .returned (.tuple #[.slice none 0 0, .int .i64 5]) | some ss => ∃ (g cap : Nat) (G : List (Value × List Pc)) (C : Array Value), e = .returned (.tuple #[.slice (some ⟨g, 0, none⟩) G.length cap, .int .i64 0]) ∧ RR w.heap.size W g cap G C ∧ G.map Prod.snd = ss.map (·.map kkP)) → ReadT w.heap.size w S e W) := fun e W h => by unfold ReadT; rw [if_neg hl]; exact h
  go_enter Tryz.func11, Tryz.ntmps11
  go_wp2
  go_loopw [4, 5] (fun ov iv wr => ∃ (pre : List Pc) (at' g cap : Nat) (G : List (Value × List Pc)), ov = .slice (some ⟨g, 0, none⟩) G.length cap ∧ iv = .int .i64 at' ∧ Hid (IH w.heap.size w S pre at' g cap G wr)) (fun _ iv _ => S.length - (intOf iv).toNat)
  case atStart => exact ⟨[], 0, w.heap.size, 1, [(.slice none 0 0, [])], rfl, rfl, ⟨_, rd_first⟩, rfl, rfl, Rd.none, Nat.zero_le _, (Below.refl _ _).alloc (Nat.le_refl _) _⟩
  case round =>
    obtain ⟨pre, at', g, cap, G, rfl, rfl, HI⟩ := hrel
    have hle := HI.out.le
    by_cases hlt : at' < S.length
    · have g1 : (at' : Int) < (S.length : Int) := by omega
      have g0 : (0 : Int) ≤ (at' : Int) := by omega
      have hx : ∀ h, (⟨S.toArray⟩ : ByteArray)[at']'h = S[at'] := fun h => rfl
      by_cases c59 : S[at'] = 59
      · have e59 : (S[at'].toNat : Int) = 59 := by rw [c59]; rfl
        have b59 : ((S[at'].toNat : Int) == 59) = true := by rw [e59]; rfl
        have HA : Hid (Below wr.heap.size wr (wr.alloc (.cells #[.slice none 0 0] 45))) := hide ((Below.refl _ _).alloc (Nat.le_refl _) _)
        obtain ⟨C, hRR⟩ := HI.out.rr
        have hGl : G.length ≤ 62 := by
          have h1 := (secsR_small _ pre (Nat.le_refl _)).1
          have h2 := rd_len HI.out.rd
          have h3 := congrArg List.length HI.out.secs
          rw [List.length_map, List.length_map] at h3
          omega
        have HO := hide (hRR.keep (KC.of_below HA.out)).owns
        have HOP : Hid (∀ (v' : Value) (w4 : World), (wr.alloc (.cells #[.slice none 0 0] 45)).grownBy w4 (some g) → w4.ownsRow w.heap.size 45 1 v' (G.length + 1) (G.map Prod.fst ++ [.slice none 0 0]) → ∃ g' cap', v' = .slice (some ⟨g', 0, none⟩) (G ++ [((.slice none 0 0 : Value), ([] : List Pc))]).length cap' ∧ IH w.heap.size w S (pre ++ [⟨5, [59]⟩]) (at' + 1) g' cap' (G ++ [(.slice none 0 0, [])]) w4) := fun v' w4 hg ho => HI.out.opened (Nat.le_refl _) hlt c59 HA.out hg ho
        have hnw : w.heap.size ≤ wr.heap.size := HI.out.below.size
        clear hRR HI c59
        go_wp2_with (at_builtin; go_loud (refine wpList_append_own _ rfl _ _ 39 rfl w.heap.size 45 i1 (.slice none 0 0) 1 24 Tryz.underlying39 hj1 hj2 hj3 hj4 rfl (by decide) _ _ _ rfl HO.out ⟨wr.heap.size, 0, none⟩ 1 1 [.slice none 0 0] rfl rfl (fun j u hu => cells_newC wr #[.slice none 0 0] 45 j u (by simpa using hu)) (by simp [Value.oneCell']) (by unfold maxLen; omega) (by omega) (by simp; omega) ?_); intro v' w4 ho4 hg4 _; obtain ⟨g', cap', rfl, hi'⟩ := HOP.out v' w4 hg4 ho4; have HI2 := hide hi'; clear hi' ho4 hg4)
        go_roundw
        case rel => exact ⟨pre ++ [⟨5, [59]⟩], at' + 1, g', cap', _, by simp, by go_num, HI2⟩
        case measure => simp [intOf] <;> omega
      · have e59 : ¬ (S[at'].toNat : Int) = 59 := fun q => c59 (UInt8.toNat_inj.1 (by show S[at'].toNat = 59; omega))
        have b59 : ((S[at'].toNat : Int) == 59) = false := by rw [beq_eq_false_iff_ne]; exact e59
        have HPc : Hid (∀ W : World, Calls Tryz.prog 36 #[.string ⟨S.toArray⟩, .int .i64 (at' : Int)] W fun e w' => e = .returned (.tuple #[(rFirst (S.drop at')).1, .int .i64 (rFirst (S.drop at')).2]) ∧ Below W.heap.size W w') := fun W => rpiece_any S at' W hlt (by omega) c59
        cases hf : firstR (S.drop at') with
        | none =>
          have hv : rFirst (S.drop at') = (noPc, 0) := by unfold rFirst; rw [hf]
          rw [hv] at HPc
          unfold noPc at HPc
          have HE := hide (HT.out (.returned (.tuple #[.slice none 0 0, .int .i64 5])))
          have hrn := rread_none HI.out.rd hlt hf
          rw [hrn] at HE
          have HB := hide HI.out.below
          clear HI hf hv HT
          go_wp2_with (go_at_call 36; refine (HPc.out _).mono ?_; rintro e w1 ⟨rfl, hb1⟩)
          refine bodyPost_ret (v := .tuple #[.slice none 0 0, .int .i64 5]) (by simp [results, Tryz.results11, go_sem]) rfl ⟨HE.out _ trivial, ?_⟩
          have HB2 := up HB.out hb1
          repeat' (first | with_reducible exact Below.refl _ _ | with_reducible refine Below.setCell ?_ ?_ _ | with_reducible refine Below.alloc ?_ ?_ _ | with_reducible refine below_drewN ?_ _ | with_reducible refine Below.drew ?_ | with_reducible refine Below.trans ?_ (Below.mono (by assumption) ?_) | with_reducible exact Nat.le_refl _ | with_reducible refine Nat.le_trans ?_ (Below.size (by assumption)) | with_reducible refine Nat.le_trans ?_ (size_alloc _ _) | with_reducible refine Nat.le_trans ?_ (size_set _ _ _) | with_reducible refine Nat.le_trans ?_ (size_drewN _ _) | with_reducible refine Nat.le_trans ?_ (size_drew _) | (simp; done) | (simp; omega) | omega)
        | some x =>
          obtain ⟨⟨pk, pt⟩, k⟩ := x
          by_cases hok : pk = 1 ∧ placeB pt = false
          · have hv : rFirst (S.drop at') = (noPc, 0) := by unfold rFirst; rw [hf]; simp only; rw [if_pos hok]
            rw [hv] at HPc
            unfold noPc at HPc
            have HE := hide (HT.out (.returned (.tuple #[.slice none 0 0, .int .i64 5])))
            have hrn := rread_bad HI.out.rd hf hok
            rw [hrn] at HE
            have HB := hide HI.out.below
            clear HI hf hv HT
            go_wp2_with (go_at_call 36; refine (HPc.out _).mono ?_; rintro e w1 ⟨rfl, hb1⟩)
            refine bodyPost_ret (v := .tuple #[.slice none 0 0, .int .i64 5]) (by simp [results, Tryz.results11, go_sem]) rfl ⟨HE.out _ trivial, ?_⟩
            have HB2 := up HB.out hb1
            repeat' (first | with_reducible exact Below.refl _ _ | with_reducible refine Below.setCell ?_ ?_ _ | with_reducible refine Below.alloc ?_ ?_ _ | with_reducible refine below_drewN ?_ _ | with_reducible refine Below.drew ?_ | with_reducible refine Below.trans ?_ (Below.mono (by assumption) ?_) | with_reducible exact Nat.le_refl _ | with_reducible refine Nat.le_trans ?_ (Below.size (by assumption)) | with_reducible refine Nat.le_trans ?_ (size_alloc _ _) | with_reducible refine Nat.le_trans ?_ (size_set _ _ _) | with_reducible refine Nat.le_trans ?_ (size_drewN _ _) | with_reducible refine Nat.le_trans ?_ (size_drew _) | (simp; done) | (simp; omega) | omega)
          · have hv : rFirst (S.drop at') = (.agg #[.int .i64 (kk pk), .string ⟨pt.toArray⟩], k) := by unfold rFirst; rw [hf]; simp only; rw [if_neg hok]; rfl
            rw [hv] at HPc
            obtain ⟨k1, k2, _⟩ := first_len hf
            rw [List.length_drop] at k2
            have kne : ((k : Int) == 0) = false := by rw [beq_eq_false_iff_ne]; omega
            have kne' : ¬ (k : Int) = 0 := by omega
            have h5 : pk ≠ 5 := by
              rw [List.drop_eq_getElem_cons hlt] at hf
              exact first_part hf c59
            have hGl : G.length ≤ 62 ∧ 1 ≤ G.length := by
              have h1 := (secsR_small _ pre (Nat.le_refl _)).1
              have h2 := rd_len HI.out.rd
              have h3 := congrArg List.length HI.out.secs
              have h4 : 1 ≤ (secsR pre).length := by simp [secsR]
              rw [List.length_map, List.length_map] at h3
              omega
            obtain ⟨G0, ⟨u, ps⟩, rfl⟩ : ∃ G0 x, G = G0 ++ [x] := by
              rcases List.eq_nil_or_concat G with rfl | ⟨G0, x, rfl⟩
              · simp at hGl
              · exact ⟨G0, x, by simp⟩
            have hpsl : ps.length ≤ 62 := by
              obtain ⟨_, e2⟩ := secs_last HI.out.secs
              have h1 := (secsR_small _ pre (Nat.le_refl _)).2 (secsF pre).2 (by simp [secsR])
              have h2 := rd_len HI.out.rd
              have h3 := congrArg List.length e2
              simp only [List.length_map] at h3
              omega
            rw [show (G0 ++ [((u : Value), ps)]).length = G0.length + 1 by simp]
            rw [show (G0 ++ [((u : Value), ps)]).length = G0.length + 1 by simp] at hGl
            clear hv c59
            go_wp2_with (go_at_call 36; refine (HPc.out _).mono ?_; rintro e w1 ⟨rfl, hb1⟩; have HB1 := hide hb1; clear hb1)
            obtain ⟨q1, q2, q3, rfl⟩ : ∃ q1 q2 q3, u = .slice q1 q2 q3 := by
              obtain ⟨C, hr⟩ := HI.out.rr
              rcases (hr.rows _ _ (snoc_last G0 (u, ps))).2 with ⟨e, _⟩ | ⟨b, c, _, e, _⟩
              · exact ⟨_, _, _, e⟩
              · exact ⟨_, _, _, e⟩
            have hwr : wr.heap.size ≤ w1.heap.size := HB1.out.size
            have huw : ∀ b, (Value.slice q1 q2 q3).ownBlock = some b → b < wr.heap.size := fun b e => by
              obtain ⟨C, hr⟩ := HI.out.rr
              exact ((hr.rows _ _ (snoc_last G0 (_, ps))).lt b e).2
            have hgw : g < wr.heap.size := by
              obtain ⟨C, hr⟩ := HI.out.rr
              exact (Array.getElem?_eq_some_iff.1 hr.row).1
            have hnw : w.heap.size ≤ wr.heap.size := HI.out.below.size
            have HI1 := hide (HI.out.keep (Nat.le_refl _) ((HB1.out).alloc HB1.out.size (.cells #[.int .i64 (kk pk), .string ⟨pt.toArray⟩] 79)))
            have hx0 := World.alloc_heap_new w1 (.cells #[.int .i64 (kk pk), .string ⟨pt.toArray⟩] 79)
            clear HI HPc HB1
            obtain ⟨PB, hPB⟩ : ∃ PB, w1.heap.size = PB := ⟨_, rfl⟩
            rw [hPB] at hx0 hwr ⊢
            generalize (w1.alloc (.cells #[.int .i64 (kk pk), .string ⟨pt.toArray⟩] 79)) = W at *
            obtain ⟨C, hRR⟩ := HI1.out.rr
            have hgp : g ≠ PB := by omega
            have hgWs : g < W.heap.size := (Array.getElem?_eq_some_iff.1 hRR.row).1
            have hxs : PB < W.heap.size := (Array.getElem?_eq_some_iff.1 hx0).1
            have HO := hide (((hRR.rows _ _ (snoc_last G0 (Value.slice q1 q2 q3, ps))).alloc (.cells #[.int .i64 (kk pk), .string ⟨pt.toArray⟩] 79)).drew)
            have hS0 : W.drew.cell? ⟨PB, 0, none⟩ = some (.int .i64 (kk pk)) ∧ W.drew.cell? ⟨PB, 1, none⟩ = some (.string ⟨pt.toArray⟩) := by
              have e0 : W.cell? ⟨PB, 0, none⟩ = some (.int .i64 (kk pk)) := by simp [World.cell?, hx0]
              have e1 : W.cell? ⟨PB, 1, none⟩ = some (.string ⟨pt.toArray⟩) := by simp [World.cell?, hx0]
              exact ⟨e0, e1⟩
            have hSA : ∀ W', Below W.heap.size W W' → W'.cell? ⟨PB, 0, none⟩ = some (.int .i64 (kk pk)) ∧ W'.cell? ⟨PB, 1, none⟩ = some (.string ⟨pt.toArray⟩) := by
              intro W' hW'
              have := (hW'.block PB hxs).trans hx0
              constructor <;> simp [World.cell?, this]
            have hA0 : Below W.heap.size W (W.alloc (.cells #[.int .i64 (kk pk), .string ⟨pt.toArray⟩] 79)).drew := ((Below.refl _ W).alloc (Nat.le_refl _) _).drew
            have cD : W.drew.cell? ⟨g, G0.length, none⟩ = some (.slice q1 q2 q3) := hRR.cells _ _ (snoc_last G0 (Value.slice q1 q2 q3, ps))
            have cA : (W.alloc (.cells #[.int .i64 (kk pk), .string ⟨pt.toArray⟩] 79)).drew.cell? ⟨g, G0.length, none⟩ = some (.slice q1 q2 q3) := (hA0.cell (p := ⟨g, G0.length, none⟩) hgWs).trans cD
            have HA0 := hide hA0
            have HSA := hide hSA
            have HUW := hide huw
            have HF := hide (⟨hf, hok⟩ : firstR (S.drop at') = some (⟨pk, pt⟩, k) ∧ ¬ (pk = 1 ∧ placeB pt = false))
            have HRR := hide hRR
            have hps1 : ps.length + 1 ≤ maxLen := by unfold maxLen; omega
            have hbn : w.heap.size ≤ W.heap.size + 1 := by omega
            have wrG : IntKind.i64.wrap ((G0.length : Int) + 1 - 1) = (G0.length : Int) := by rw [IntKind.wrap_i64]; omega
            have wrG' : IntKind.i64.wrap (G0.length : Int) = (G0.length : Int) := by rw [IntKind.wrap_i64]; omega
            have gG0 : (0 : Int) ≤ (G0.length : Int) := by omega
            have gG1 : (G0.length : Int) < (G0.length : Int) + 1 := by omega
            have wrk : IntKind.i64.wrap ((at' : Int) + (k : Int)) = (at' : Int) + (k : Int) := by rw [IntKind.wrap_i64]; omega
            clear hx0 hRR huw hSA hA0 hf hok HT
            refine wp_region_held_drew (S := fun W' => W'.cell? ⟨PB, 0, none⟩ = some (.int .i64 (kk pk)) ∧ W'.cell? ⟨PB, 1, none⟩ = some (.string ⟨pt.toArray⟩)) (by kernel_rfl) hS0 (fun hHeld => ?_)
            (refine takeD (i := 0) (some 34) rfl rfl (by kernel_rfl) (by kernel_rfl) (by kernel_rfl) (fun _ _ _ h => h) (v := ?_) rfl ?_ (by assumption) ?_; rotate_left; (focus (intro w hSw; (try dsimp only at hSw); first | (go_simp; done) | (go_simp; with_reducible rfl))); try simp only [Act.put, List.setIfInBounds_toArray, List.set_cons_zero, List.set_cons_succ]); (refine takeD (i := 1) (some 35) rfl rfl (by kernel_rfl) (by kernel_rfl) (by kernel_rfl) (fun _ _ _ h => h) (v := ?_) rfl ?_ (by assumption) ?_; rotate_left; (focus (intro w hSw; (try dsimp only at hSw); first | (go_simp; done) | (go_simp; with_reducible rfl))); try simp only [Act.put, List.setIfInBounds_toArray, List.set_cons_zero, List.set_cons_succ]); (refine takeD (i := 2) (some 36) rfl rfl (by kernel_rfl) (by kernel_rfl) (by kernel_rfl) (fun _ _ _ h => h) (v := ?_) rfl ?_ (by assumption) ?_; rotate_left; (focus (intro w hSw; (try dsimp only at hSw); first | (go_simp; done) | (go_simp; with_reducible rfl))); try simp only [Act.put, List.setIfInBounds_toArray, List.set_cons_zero, List.set_cons_succ]); (refine takeD (i := 3) (some 37) rfl rfl (by kernel_rfl) (by kernel_rfl) (by kernel_rfl) (fun _ _ _ h => h) (v := ?_) rfl ?_ (by assumption) ?_; rotate_left; (focus (intro w hSw; (try dsimp only at hSw); first | (go_simp; done) | (go_simp; with_reducible rfl))); try simp only [Act.put, List.setIfInBounds_toArray, List.set_cons_zero, List.set_cons_succ]); (refine takeD (i := 4) (some 38) rfl rfl (by kernel_rfl) (by kernel_rfl) (by kernel_rfl) (fun _ _ _ h => h) (v := ?_) rfl ?_ (by assumption) ?_; rotate_left; (focus (intro w hSw; (try dsimp only at hSw); first | (go_simp; done) | (go_simp; with_reducible rfl))); try simp only [Act.put, List.setIfInBounds_toArray, List.set_cons_zero, List.set_cons_succ]); (refine takeD (i := 5) (some 39) rfl rfl (by kernel_rfl) (by kernel_rfl) (by kernel_rfl) (fun _ _ _ h => h) (v := ?_) rfl ?_ (by assumption) ?_; rotate_left; (focus (intro w hSw; (try dsimp only at hSw); first | (go_simp; done) | (go_simp; with_reducible rfl))); try simp only [Act.put, List.setIfInBounds_toArray, List.set_cons_zero, List.set_cons_succ]); (refine takeD (i := 6) (some 40) rfl rfl (by kernel_rfl) (by kernel_rfl) (by kernel_rfl) (fun _ _ _ h => h) (v := ?_) rfl ?_ (by assumption) ?_; rotate_left; (focus (intro w hSw; (try dsimp only at hSw); first | (go_simp; done) | (go_simp; with_reducible rfl))); try simp only [Act.put, List.setIfInBounds_toArray, List.set_cons_zero, List.set_cons_succ]); (refine takeD (i := 7) (some 41) rfl rfl (by kernel_rfl) (by kernel_rfl) (by kernel_rfl) (fun _ _ _ h => h) (v := ?_) rfl ?_ (by assumption) ?_; rotate_left; (focus (intro w hSw; (try dsimp only at hSw); first | (go_simp; done) | (go_simp; with_reducible rfl))); try simp only [Act.put, List.setIfInBounds_toArray, List.set_cons_zero, List.set_cons_succ]); (refine takeD (i := 8) (some 42) rfl rfl (by kernel_rfl) (by kernel_rfl) (by kernel_rfl) (fun _ _ _ h => h) (v := ?_) rfl ?_ (by assumption) ?_; rotate_left; (focus (intro w hSw; (try dsimp only at hSw); first | (go_simp; done) | (go_simp; with_reducible rfl))); try simp only [Act.put, List.setIfInBounds_toArray, List.set_cons_zero, List.set_cons_succ])
            (refine takeD (i := 10) (some 44) rfl rfl (by kernel_rfl) (by kernel_rfl) (by kernel_rfl) (fun _ _ _ h => h) (v := ?_) rfl ?_ (by assumption) ?_; rotate_left; (focus (intro w hSw; (try dsimp only at hSw); obtain ⟨hS1, hS2⟩ := hSw; first | (go_simp; done) | (go_simp; with_reducible rfl))); try simp only [Act.put, List.setIfInBounds_toArray, List.set_cons_zero, List.set_cons_succ])
            refine wpAnyH_ready (rs := [9, 11]) (by kernel_rfl) (by simp) ?_
            refine readyC (o := _) rfl rfl (fun K hK => ?_) (readyC (o := _) rfl rfl (fun K hK => ?_) AllReadyH.nil)
            · refine wp_runC (v := .slice q1 q2 q3) (w' := W.drew) (by go_simp) ?_
              refine hK.out _ _ hS0 (fun hHeld => ?_)
              clear hK K
              try simp only [Act.put, List.setIfInBounds_toArray, List.set_cons_zero, List.set_cons_succ]
              refine wpAnyH_ready (rs := [11]) (by kernel_rfl) (by simp) ?_
              refine readyC (o := _) rfl rfl (fun K hK => ?_) AllReadyH.nil
              go_simp
              refine hK.out _ _ (HSA.out _ HA0.out) (fun hHeld => ?_)
              clear hK K
              try simp only [Act.put, List.setIfInBounds_toArray, List.set_cons_zero, List.set_cons_succ]
              refine wpAnyH_ready (rs := [12]) (by kernel_rfl) (by simp) ?_
              refine readyC (o := _) rfl rfl (fun K hK => ?_) AllReadyH.nil
              obtain ⟨v', w4, hr4, hown4, hgr4, _, hwh4⟩ := run_append_own_at (P := Tryz.prog) _ w.heap.size 45 45 79 i0 (.agg #[.int .i64 0, .string ⟨#[]⟩]) 2 24 Tryz.underlying45 hinf hz0 hz1 hz2 rfl (by decide) _ _ _ HO.out ⟨W.heap.size, 0, none⟩ 1 1 [.int .i64 (kk pk), .string ⟨pt.toArray⟩] rfl
                (fun j u hu => cells_newC W #[.int .i64 (kk pk), .string ⟨pt.toArray⟩] 79 j u (by simpa using hu))
                (by simp [Value.oneCell']) hps1 (by show (ps.length + 1) * 24 ≤ _; omega) (by simp; omega)
              refine wp_append_own _ _ _ rfl rfl rfl ⟨v', w4, hr4, ?_⟩
              obtain ⟨c4, f4⟩ := rtaken_pre HRR.out HA0.out hgr4
              have hS4 : w4.cell? ⟨PB, 0, none⟩ = some (.int .i64 (kk pk)) ∧ w4.cell? ⟨PB, 1, none⟩ = some (.string ⟨pt.toArray⟩) := by
                have e := hgr4.block PB (Nat.lt_of_lt_of_le hxs HA0.out.size) (fun q => by have := HUW.out _ q.symm; omega)
                have hq := HSA.out _ HA0.out
                exact ⟨(World.cell?_of_block (a := ⟨PB, 0, none⟩) e).trans hq.1, (World.cell?_of_block (a := ⟨PB, 1, none⟩) e).trans hq.2⟩
              have HT := hide (HI1.out.taken (Nat.le_refl _) HF.out.1 HF.out.2 h5 HA0.out hgr4 hown4 hwh4)
              obtain ⟨r1, r2, r3, rfl⟩ : ∃ r1 r2 r3, v' = .slice r1 r2 r3 := by
                rcases hown4.2 with ⟨e, _⟩ | ⟨b, c, _, e, _⟩
                · exact ⟨_, _, _, e⟩
                · exact ⟨_, _, _, e⟩
              refine hK.out _ _ hS4 (fun hHeld => ?_)
              clear hK K hown4 hgr4 hwh4 hr4
              try simp only [Act.put, List.setIfInBounds_toArray, List.set_cons_zero, List.set_cons_succ]
              (refine takeD (i := 13) (some 47) rfl rfl (by kernel_rfl) (by kernel_rfl) (by kernel_rfl) (fun _ _ _ h => h) (v := ?_) rfl ?_ (by assumption) ?_; rotate_left; (focus (intro w hSw; (try dsimp only at hSw); first | (go_simp; done) | (go_simp; with_reducible rfl))); try simp only [Act.put, List.setIfInBounds_toArray, List.set_cons_zero, List.set_cons_succ])
              refine wpAnyH_ready (rs := [14]) (by kernel_rfl) (by simp) ?_
              refine readyC (o := _) rfl rfl (fun K hK => ?_) AllReadyH.nil
              go_simp
              have hS5 : (w4.setCell ⟨g, G0.length, none⟩ (.slice r1 r2 r3)).cell? ⟨PB, 0, none⟩ = some (.int .i64 (kk pk)) ∧ (w4.setCell ⟨g, G0.length, none⟩ (.slice r1 r2 r3)).cell? ⟨PB, 1, none⟩ = some (.string ⟨pt.toArray⟩) :=
                ⟨(World.cell?_setCell_far _ _ _ _ hgp).trans hS4.1, (World.cell?_setCell_far _ _ _ _ hgp).trans hS4.2⟩
              refine hK.out _ _ hS5 (fun hHeld => ?_)
              clear hK K
              refine wpAnyH_done (by kernel_rfl) ?_ _
              go_wp2
              go_roundw
              case rel => exact ⟨pre ++ [⟨pk, pt⟩], at' + k, g, cap, _, by simp, by go_num, HT⟩
              case measure => simp [intOf] <;> omega
            · go_simp
              refine hK.out _ _ (HSA.out _ HA0.out) (fun hHeld => ?_)
              clear hK K
              try simp only [Act.put, List.setIfInBounds_toArray, List.set_cons_zero, List.set_cons_succ]
              refine wpAnyH_ready (rs := [9]) (by kernel_rfl) (by simp) ?_
              refine readyC (o := _) rfl rfl (fun K hK => ?_) AllReadyH.nil
              refine wp_runC (v := .slice q1 q2 q3) (w' := (W.alloc (.cells #[.int .i64 (kk pk), .string ⟨pt.toArray⟩] 79)).drew) (by go_simp) ?_
              refine hK.out _ _ (HSA.out _ HA0.out) (fun hHeld => ?_)
              clear hK K
              try simp only [Act.put, List.setIfInBounds_toArray, List.set_cons_zero, List.set_cons_succ]
              refine wpAnyH_ready (rs := [12]) (by kernel_rfl) (by simp) ?_
              refine readyC (o := _) rfl rfl (fun K hK => ?_) AllReadyH.nil
              obtain ⟨v', w4, hr4, hown4, hgr4, _, hwh4⟩ := run_append_own_at (P := Tryz.prog) _ w.heap.size 45 45 79 i0 (.agg #[.int .i64 0, .string ⟨#[]⟩]) 2 24 Tryz.underlying45 hinf hz0 hz1 hz2 rfl (by decide) _ _ _ HO.out ⟨W.heap.size, 0, none⟩ 1 1 [.int .i64 (kk pk), .string ⟨pt.toArray⟩] rfl
                (fun j u hu => cells_newC W #[.int .i64 (kk pk), .string ⟨pt.toArray⟩] 79 j u (by simpa using hu))
                (by simp [Value.oneCell']) hps1 (by show (ps.length + 1) * 24 ≤ _; omega) (by simp; omega)
              refine wp_append_own _ _ _ rfl rfl rfl ⟨v', w4, hr4, ?_⟩
              obtain ⟨c4, f4⟩ := rtaken_pre HRR.out HA0.out hgr4
              have hS4 : w4.cell? ⟨PB, 0, none⟩ = some (.int .i64 (kk pk)) ∧ w4.cell? ⟨PB, 1, none⟩ = some (.string ⟨pt.toArray⟩) := by
                have e := hgr4.block PB (Nat.lt_of_lt_of_le hxs HA0.out.size) (fun q => by have := HUW.out _ q.symm; omega)
                have hq := HSA.out _ HA0.out
                exact ⟨(World.cell?_of_block (a := ⟨PB, 0, none⟩) e).trans hq.1, (World.cell?_of_block (a := ⟨PB, 1, none⟩) e).trans hq.2⟩
              have HT := hide (HI1.out.taken (Nat.le_refl _) HF.out.1 HF.out.2 h5 HA0.out hgr4 hown4 hwh4)
              obtain ⟨r1, r2, r3, rfl⟩ : ∃ r1 r2 r3, v' = .slice r1 r2 r3 := by
                rcases hown4.2 with ⟨e, _⟩ | ⟨b, c, _, e, _⟩
                · exact ⟨_, _, _, e⟩
                · exact ⟨_, _, _, e⟩
              refine hK.out _ _ hS4 (fun hHeld => ?_)
              clear hK K hown4 hgr4 hwh4 hr4
              try simp only [Act.put, List.setIfInBounds_toArray, List.set_cons_zero, List.set_cons_succ]
              (refine takeD (i := 13) (some 47) rfl rfl (by kernel_rfl) (by kernel_rfl) (by kernel_rfl) (fun _ _ _ h => h) (v := ?_) rfl ?_ (by assumption) ?_; rotate_left; (focus (intro w hSw; (try dsimp only at hSw); first | (go_simp; done) | (go_simp; with_reducible rfl))); try simp only [Act.put, List.setIfInBounds_toArray, List.set_cons_zero, List.set_cons_succ])
              refine wpAnyH_ready (rs := [14]) (by kernel_rfl) (by simp) ?_
              refine readyC (o := _) rfl rfl (fun K hK => ?_) AllReadyH.nil
              go_simp
              have hS5 : (w4.setCell ⟨g, G0.length, none⟩ (.slice r1 r2 r3)).cell? ⟨PB, 0, none⟩ = some (.int .i64 (kk pk)) ∧ (w4.setCell ⟨g, G0.length, none⟩ (.slice r1 r2 r3)).cell? ⟨PB, 1, none⟩ = some (.string ⟨pt.toArray⟩) :=
                ⟨(World.cell?_setCell_far _ _ _ _ hgp).trans hS4.1, (World.cell?_setCell_far _ _ _ _ hgp).trans hS4.2⟩
              refine hK.out _ _ hS5 (fun hHeld => ?_)
              clear hK K
              refine wpAnyH_done (by kernel_rfl) ?_ _
              go_wp2
              go_roundw
              case rel => exact ⟨pre ++ [⟨pk, pt⟩], at' + k, g, cap, _, by simp, by go_num, HT⟩
              case measure => simp [intOf] <;> omega
    · have g1 : ¬ (at' : Int) < (S.length : Int) := by omega
      have eat : at' = S.length := by omega
      subst eat
      have hre := rread_end HI.out.rd HI.out.ok
      have hsl : G.length = (secsR pre).length := by
        have h3 := congrArg List.length HI.out.secs
        simpa using h3
      have HB := hide HI.out.below
      obtain ⟨C, hRR⟩ := HI.out.rr
      have HRR := hide hRR
      have HSc := hide HI.out.secs
      have HK5 : Hid (∀ ps ∈ secsR pre, ∀ q ∈ ps, q.k ≤ 5) := fun ps hps q hq => rd_kinds HI.out.rd q (secsR_mem _ pre (Nat.le_refl _) ps hps q hq)
      have HN5 : Hid (∀ ps ∈ secsR pre, ∀ q ∈ ps, q.k ≠ 5) := secs_no5 _ pre (Nat.le_refl _)
      have HL : Hid (∀ ps ∈ secsR pre, ps.length ≤ 61) := fun ps hps => by
        have h1 := (secsR_small _ pre (Nat.le_refl _)).2 ps hps
        have h2 := rd_len HI.out.rd
        omega
      clear hRR HI hlt
      obtain ⟨ss, hss⟩ : ∃ ss, secsR pre = ss := ⟨_, rfl⟩
      rw [hss] at hre hsl HSc HK5 HN5 HL
      clear hss
      by_cases h3 : 3 < G.length
      · have g3 : (3 : Int) < (G.length : Int) := by omega
        rw [if_neg (by omega)] at hre
        have HE := hide (HT.out (.returned (.tuple #[.slice none 0 0, .int .i64 5])))
        rw [hre] at HE
        clear HT
        go_wp2
        refine bodyPost_ret (v := .tuple #[.slice none 0 0, .int .i64 5]) (by simp [results, Tryz.results11, go_sem]) rfl ⟨HE.out _ trivial, HB.out⟩
      · have g3 : ¬ (3 : Int) < (G.length : Int) := by omega
        have hGi : (G.length : Int) ≤ 3 := by omega
        have HRe := hide hre
        clear hre
        go_wp2
        obtain ⟨wo, hwo⟩ : ∃ wo : World, wo = wr := ⟨wr, rfl⟩
        subst hwo
        go_loopw [8] (fun iv wx => ∃ i : Nat, i ≤ G.length ∧ iv = .int .i64 i ∧ Hid ((ss.take i).all rightS = true) ∧ Hid (Below wo.heap.size wo wx)) (fun iv _ => G.length - (intOf iv).toNat)
        case atStart => exact ⟨0, Nat.zero_le _, rfl, rfl, Below.refl _ _⟩
        case round =>
          obtain ⟨i, hi, rfl, HA, HBx⟩ := hrel
          by_cases hli : i < G.length
          · have gi : (i : Int) < (G.length : Int) := by omega
            have gi0 : (0 : Int) ≤ (i : Int) := by omega
            have hk := HRR.out.keep (KC.of_below HBx.out)
            have hGe := List.getElem?_eq_getElem hli
            have hcell := hk.cells i _ hGe
            have hpcs := pcs_of' (hk.rows i _ hGe)
            have hlis : i < ss.length := by omega
            have hsec : G[i].2 = ss[i].map kkP := by
              have := congrArg (fun l => l[i]?) HSc.out
              simp only [List.getElem?_map, hGe, List.getElem?_eq_getElem hlis, Option.map_some] at this
              exact Option.some.inj this
            rw [hsec] at hpcs
            have hk5 := HK5.out _ (List.getElem_mem hlis)
            have hn5 := HN5.out _ (List.getElem_mem hlis)
            have hkl := HL.out _ (List.getElem_mem hlis)
            have hrk := rKind_any G[i].1 (ss[i].map kkP) _ hpcs (fun q hq => by
              obtain ⟨p, hp, rfl⟩ := List.mem_map.1 hq
              exact kk_lt (hk5 p hp) (hn5 p hp)) (by simp; omega)
            rw [rkind_is hk5] at hrk
            have HKd := hide hrk
            have hAll : (ss.take (i + 1)).all rightS = ((ss.take i).all rightS && rightS ss[i]) := by
              rw [List.take_succ_eq_append_getElem hlis, List.all_append]; simp
            rw [HA.out] at hAll
            have hfull : rightS ss[i] = false → ss.all rightS = false := fun h => by
              cases hq : ss.all rightS
              · rfl
              · exact absurd (List.all_eq_true.1 hq _ (List.getElem_mem hlis)) (by rw [h]; decide)
            cases hr : rightS ss[i]
            · have hre := HRe.out
              rw [if_neg (by rw [hfull hr]; rintro ⟨_, q⟩; cases q)] at hre
              have HE := hide (HT.out (.returned (.tuple #[.slice none 0 0, .int .i64 5])))
              rw [hre] at HE
              rw [hr] at HKd
              simp only [Bool.false_eq_true, if_false] at HKd
              clear HT hrk hpcs hk hAll hfull HRe hre hk5 hn5 hsec hr
              have HB2 := hide (HB.out.trans (HBx.out.mono HB.out.size))
              go_wp2_with (go_at_call 14; refine (HKd.out).mono ?_; rintro e w1 ⟨rfl, hb1⟩)
              refine bodyPost_ret (v := .tuple #[.slice none 0 0, .int .i64 5]) (by simp [results, Tryz.results11, go_sem]) rfl ⟨HE.out _ trivial, up HB2.out hb1⟩
            · rw [hr] at HKd hAll
              simp only [if_true] at HKd
              have HA2 : Hid ((ss.take (i + 1)).all rightS = true) := by rw [hAll]; rfl
              obtain ⟨KV, hKV⟩ : ∃ KV, kk (kindS ss[i]) = KV := ⟨_, rfl⟩
              rw [hKV] at HKd
              have hkv : ¬ (KV : Int) < 0 := by omega
              clear hrk hpcs hk hAll hfull HRe hk5 hn5 hsec hr hKV HT
              go_wp2_with (go_at_call 14; refine (HKd.out).mono ?_; rintro e w1 ⟨rfl, hb1⟩; have HB3 := hide (up HBx.out hb1); clear hb1)
              go_roundw
              case rel => exact ⟨i + 1, hli, by go_num, HA2, HB3⟩
              case measure => simp [intOf] <;> omega
          · have gi : ¬ (i : Int) < (G.length : Int) := by omega
            have hre := HRe.out
            have e : ss.take i = ss := List.take_of_length_le (by omega)
            have hall := HA.out
            rw [e] at hall
            rw [if_pos ⟨by omega, hall⟩] at hre
            have HE := hide (HT.out (.returned (.tuple #[.slice (some ⟨g, 0, none⟩) G.length cap, .int .i64 0])))
            rw [hre] at HE
            have HRR2 := hide (HRR.out.keep (KC.of_below HBx.out))
            have HB2 := hide (HB.out.trans (HBx.out.mono HB.out.size))
            clear hre hall HRe HRR HBx HT
            go_wp2
            refine bodyPost_ret (v := .tuple #[.slice (some ⟨g, 0, none⟩) G.length cap, .int .i64 0]) (by simp [results, Tryz.results11, go_sem]; exact hsl.symm) rfl ⟨HE.out _ ⟨g, cap, G, _, rfl, HRR2.out, HSc.out⟩, HB2.out⟩
end Go.Proofs.YtnhaapcpklfkpaaGreatDoor
