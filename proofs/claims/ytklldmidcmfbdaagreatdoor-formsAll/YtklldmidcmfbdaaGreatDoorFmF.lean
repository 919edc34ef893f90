/-
  All functions, in the table's order: the contracts of forms.functions, and of the function that it hands back.
-/
import Derived.Test.YtklldmidcmfbdaaGreatDoorFmT
namespace Go.Proofs.YtklldmidcmfbdaaGreatDoor
open Go.RowKit Go.Shelf

attribute [local go_sem] Oper.semAt_some

/-- A function: its name, how many arguments, what is wanted. -/
structure Fu where
  name : ByteArray
  least : Int
  most : Int
  wants : ByteArray
def fnC (f : Fu) : List Value := [.string f.name, .int .i64 f.least, .int .i64 f.most, .string f.wants]
def fnOf (g : Gr) (n : ByteArray) : Fu := ⟨n, g.least, g.most, g.wants⟩
def fnsOf (g : Gr) : List Fu := (splitB g.names).map (fnOf g)
/-- All functions, in the table's order. -/
def fnsL : List Fu := tabG.flatMap fnsOf
theorem tab_len : tabG.length = 21 := rfl
theorem drop_flat : ∀ (k : Nat) (l : List Gr), (l.flatMap grC).drop (k * 4) = (l.drop k).flatMap grC
  | 0, l => by simp
  | k + 1, [] => by simp
  | k + 1, g :: l => by
    rw [List.flatMap_cons, show (k + 1) * 4 = (grC g).length + k * 4 by show _ = 4 + _; omega, ← List.drop_drop, List.drop_left, List.drop_succ_cons, drop_flat k l]
/-- A line out of the table's value. -/
theorem run_line (k : Nat) (hk : (k : Int) < 21) (g : Gr) (h : tabG[k]? = some g) (W : World) : (Instr.index 79 (.agg tabC.toArray) (.int .i64 (k : Int))).run Tryz.prog W = .ok (.agg (grC g).toArray) W := by
  have hk' : k < 21 := by omega
  have hx : List.take 4 (List.drop (k * 4) tabC) = grC g := by
    unfold tabC
    obtain ⟨hlt, hg⟩ := List.getElem?_eq_some_iff.1 h
    rw [drop_flat, List.drop_eq_getElem_cons hlt, hg, List.flatMap_cons, show (4 : Nat) = (grC g).length from rfl, List.take_left]
  simp [Instr.index, run_underlying Tryz.underlying79, asIntOf, go_sem, hk', hx]
theorem functions_any (w : World) : Calls Tryz.prog 10 #[] w fun e w' => e = .returned (.func (.func 23) #[] #[]) ∧ w' = w := by
  go_enter Tryz.func10, Tryz.ntmps10
  go_wp2
  go_ret
  exact ⟨rfl, rfl⟩
theorem names_small : ∀ g ∈ tabG, g.names.size ≤ maxLen := by
  intro g hg
  have : ∀ g ∈ tabG, g.names.size ≤ 1000 := by
    have h : (tabG.all fun g => decide (g.names.size ≤ 1000)) = true := by kernel_rfl
    intro g hg
    exact of_decide_eq_true (List.all_eq_true.1 h g hg)
  have := this g hg
  unfold maxLen
  omega
set_option maxRecDepth 100000 in
set_option maxHeartbeats 2000000 in
theorem functions_stops (n₀ B : Nat) :
    SeqR n₀ B (fun _ => False) Tryz.prog 23 #[] (fun f : Fu => #[.agg (fnC f).toArray]) (fun xs => xs = fnsL) (fun pre => pre <+: fnsL) fnsL.length (fun W => RowIn B W ∧ n₀ ≤ W.heap.size) := by
  intro l J Jx W ⟨hR, hn⟩ hJ hJx hY h0
  have HY := hide hY
  have HJ := hide hJ
  have HJx := hide hJx
  have HT : Hid (∀ X : World, CallsIn Fence.wide 0 Tryz.prog 24 #[] X fun e w' => e = .returned (.agg tabC.toArray) ∧ Below X.heap.size X w') := fun X => callsIn_wide.2 (table_any X)
  have HS := hide (Sf.new (B := B) W #[.func (.yield l) #[] #[]] 76 hR.1 hR.2)
  have HB := hide ((Below.refl W.heap.size W).alloc (Nat.le_refl _) (.cells #[.func (.yield l) #[] #[]] 76))
  clear hY hJ hJx
  refine callsIn_of_wp_marks Tryz.func23 rfl trivial ?_ rfl
  simp only [Tryz.ntmps23, List.size_toArray, List.length_cons, List.length_nil, Nat.reduceAdd, Nat.reduceSub, Array.replicate_succ, Array.replicate_zero, List.push_toArray, List.append_toArray, List.nil_append, List.cons_append, Array.append_empty]
  gi_wp2_with (refine ⟨trivial, rfl, ?_⟩; gi_at_call 24; refine (HT.out _).mono ?_; rintro e w1 ⟨rfl, hb1⟩; have HB1 := hide hb1; clear hb1)
  have hw1 : W.heap.size < w1.heap.size := by have := HB1.out.size; simp at this; omega
  have HS1 := hide (HS.out.below HB1.out)
  have HJ1 := hide (HJ.out.below (HJ.out.below h0 HB.out) HB1.out)
  have HR1 := hide ((hR.below HB.out).below HB1.out)
  clear HS HB HB1 hR h0 HT
  refine wpIn_loop (fun a wr => ∃ (i : Nat) (pre : List Fu) (Ds : List Nat) (u3 u4 u7 u8 u9 u10 u11 u12 u13 u14 u15 u16 u17 u18 u19 u20 : Value), i ≤ 21 ∧ fnsL = pre ++ (tabG.drop i).flatMap fnsOf ∧ W.heap.size < wr.heap.size ∧ Mk W.heap.size wr.heap.size Ds wr ∧ J pre wr ∧ Sf B wr W.heap.size #[.func (.yield l) #[] #[]] 76 ∧ RowIn B wr ∧
      a = { tmps := #[.func (.yield l) #[] #[], .pointer (some ⟨W.heap.size, 0, none⟩), undef, u3, u4, .agg tabC.toArray, .int .i64 (i : Int), u7, u8, u9, u10, u11, u12, u13, u14, u15, u16, u17, u18, u19, u20], defers := Ds.map mkD })
    (fun a _ => 21 - (intOf (a.tmps.getD 6 undef)).toNat) ?start ?round
  case start => exact ⟨0, [], [], _, _, _, _, _, _, _, _, _, _, _, _, _, _, _, _, by omega, rfl, hw1, Mk.nil _ _ _, HJ1.out, HS1.out, HR1.out, rfl⟩
  case round =>
    rintro _ wr ⟨i, pre, Ds, u3, u4, u7, u8, u9, u10, u11, u12, u13, u14, u15, u16, u17, u18, u19, u20, hi, hx, hz, hM, hJr, hS, hRr, rfl⟩
    have HX := hide hx
    have HM := hide hM
    have HJr := hide hJr
    have HSr := hide hS
    have HRr := hide hRr
    clear hx hM hJr hS hRr HJ1 HS1 HR1 hw1 w1
    by_cases h21 : i = 21
    · subst h21
      have HX' : Hid (fnsL = pre) := by show _ = _; rw [HX.out]; simp [tabG]
      gi_wp2
      exact leaves_marks Ds wr HM.out ⟨.tuple #[], results_none rfl _ _ _, ⟨_, rfl⟩, .inl ⟨pre, HX'.out.symm, shut_ab HJ.out (Nat.le_refl _) Ds wr HM.out HJr.out⟩⟩
    · have hlt : (i : Int) < 21 := by omega
      obtain ⟨g, hg⟩ : ∃ g, tabG[i]? = some g := ⟨tabG[i]'(by rw [tab_len]; omega), List.getElem?_eq_getElem _⟩
      have hgm : g ∈ tabG := List.mem_of_getElem? hg
      have hline := run_line i hlt g hg
      have HX' : Hid (fnsL = pre ++ fnsOf g ++ (tabG.drop (i + 1)).flatMap fnsOf) := by
        show _ = _
        obtain ⟨hl, hg'⟩ := List.getElem?_eq_some_iff.1 hg
        rw [HX.out, List.drop_eq_getElem_cons hl, hg', List.flatMap_cons, List.append_assoc]
      have HSp : Hid (∀ X : World, CallsIn Fence.wide 0 Tryz.prog 25 #[.string g.names, .string ⟨#[32]⟩] X fun e w' => e = .returned (.func (.func 49) #[] #[.pointer (some ⟨X.heap.size + 1, 0, none⟩), .pointer (some ⟨X.heap.size, 0, none⟩), .pointer (some ⟨X.heap.size + 1 + 1, 0, none⟩)])
        ∧ w' = ((X.alloc (.cells #[.string g.names] 9)).alloc (.cells #[.string ⟨#[32]⟩] 9)).alloc (.cells #[.int .i64 0] 3)) := fun X => callsIn_wide.2 (splitSeq_any g.names X)
      have hsm := names_small g hgm
      clear hg hgm HX
      obtain ⟨gn, gl, gm, gw⟩ := g
      simp only [grC] at hline
      gi_wp2_with (refine ⟨trivial, rfl, ?_⟩; gi_at_call 25; refine (HSp.out _).mono ?_; rintro e wz ⟨rfl, hz2⟩; subst wz)
      obtain ⟨g, hg⟩ : ∃ g : Gr, g = ⟨gn, gl, gm, gw⟩ := ⟨_, rfl⟩
      have f0 := Sf.new (B := B) wr #[.string gn, .int .i64 gl, .int .i64 gm, .string gw] 78 HRr.out.1 HRr.out.2
      have b0 : Below wr.heap.size wr (wr.alloc (.cells #[.string gn, .int .i64 gl, .int .i64 gm, .string gw] 78)) := (Below.refl _ _).alloc (Nat.le_refl _) _
      obtain ⟨wa, hwa⟩ : ∃ wa, wr.alloc (.cells #[.string gn, .int .i64 gl, .int .i64 gm, .string gw] 78) = wa := ⟨_, rfl⟩
      rw [hwa] at f0 b0 ⊢
      have za : wa.heap.size = wr.heap.size + 1 := by rw [← hwa]; simp
      have ra := HRr.out.below b0
      have f1 := Sf.new (B := B) wa #[.string gn] 9 ra.1 ra.2
      have b1 : Below wa.heap.size wa (wa.alloc (.cells #[.string gn] 9)) := (Below.refl _ _).alloc (Nat.le_refl _) _
      obtain ⟨wb, hwb⟩ : ∃ wb, wa.alloc (.cells #[.string gn] 9) = wb := ⟨_, rfl⟩
      rw [hwb] at f1 b1 ⊢
      have zb : wb.heap.size = wr.heap.size + 2 := by rw [← hwb]; simp; omega
      have rb := ra.below b1
      have f2 := Sf.new (B := B) wb #[.string ⟨#[32]⟩] 9 rb.1 rb.2
      have b2 : Below wb.heap.size wb (wb.alloc (.cells #[.string ⟨#[32]⟩] 9)) := (Below.refl _ _).alloc (Nat.le_refl _) _
      obtain ⟨wc, hwc⟩ : ∃ wc, wb.alloc (.cells #[.string ⟨#[32]⟩] 9) = wc := ⟨_, rfl⟩
      rw [hwc] at f2 b2 ⊢
      have zc : wc.heap.size = wr.heap.size + 3 := by rw [← hwc]; simp; omega
      have rc := rb.below b2
      have f3 := Sf.new (B := B) wc #[.int .i64 0] 3 rc.1 rc.2
      have b3 : Below wc.heap.size wc (wc.alloc (.cells #[.int .i64 0] 3)) := (Below.refl _ _).alloc (Nat.le_refl _) _
      obtain ⟨wd, hwd⟩ : ∃ wd, wc.alloc (.cells #[.int .i64 0] 3) = wd := ⟨_, rfl⟩
      rw [hwd] at f3 b3 ⊢
      have zd : wd.heap.size = wr.heap.size + 4 := by rw [← hwd]; simp; omega
      have rd := rc.below b3
      have bB : Below wr.heap.size wr wd := b0.trans ((b1.trans ((b2.trans (b3.mono b2.size)).mono b1.size)).mono b0.size)
      rw [za] at f1
      rw [zb] at f2
      rw [zc] at f3
      have g0 := ((f0.below b1).below b2).below b3
      have g1 := (f1.below b2).below b3
      have g2 := f2.below b3
      clear hwa hwb hwc hwd f0 f1 f2 ra rb rc b0 b1 b2 b3 hline HSp
      have HG : Hid (Sf B wd wr.heap.size #[.string gn, .int .i64 gl, .int .i64 gm, .string gw] 78) := g0
      have hBlt : B < wr.heap.size := HRr.out.1
      have hBne : B ≠ wr.heap.size + 1 := by omega
      refine rangeR (α := ByteArray) (B := B) (n₀ := n₀) (X := fun r => r = wr.heap.size + 1) rfl (enters_of Tryz.func49 (by kernel_rfl) rfl) (split_stops n₀ B (wr.heap.size + 1) gn hsm)
        (fun X hX => ⟨g1.below hX, g2.below hX, f3.below hX⟩) (fun _ => rfl) (by omega) (by omega) (by omega)
        (fun pre' X => J (pre ++ pre'.map (fnOf ⟨gn, gl, gm, gw⟩)) X ∧ Sf B X W.heap.size #[.func (.yield l) #[] #[]] 76 ∧ Sf B X wr.heap.size #[.string gn, .int .i64 gl, .int .i64 gm, .string gw] 78 ∧ RowIn B X ∧ Mk W.heap.size wr.heap.size Ds X ∧ wd.heap.size ≤ X.heap.size)
        (fun c pre' X => c = .ret ∧ Jx (pre ++ pre'.map (fnOf ⟨gn, gl, gm, gw⟩)) X ∧ Mk W.heap.size wr.heap.size Ds X)
        ?hI ?hIx ?h0 (fun x a' _ => a' = { tmps := #[.func (.yield l) #[] #[], .pointer (some ⟨W.heap.size, 0, none⟩), undef, .pointer (some ⟨wr.heap.size, 0, none⟩), .string x, .agg tabC.toArray, .int .i64 (i : Int), .bool true, .agg #[.string gn, .int .i64 gl, .int .i64 gm, .string gw], .pointer (some ⟨wr.heap.size, 0, none⟩), .string gn, .func (.func 49) #[] #[.pointer (some ⟨wr.heap.size + 1 + 1, 0, none⟩), .pointer (some ⟨wr.heap.size + 1, 0, none⟩), .pointer (some ⟨wr.heap.size + 1 + 1 + 1, 0, none⟩)], .string x, u13, u14, u15, u16, u17, u18, u19, u20], defers := [] })
        (fun _ _ => fun _ _ _ _ h _ _ => h) ?assign ?body ?done ?stop
      case hI =>
        exact ((HJ.out.comp _).mono (by rintro r (h | h) <;> right <;> omega)).and ((ab_sf _ _ (by omega) (by omega) (by omega) (by omega)).and ((ab_sf _ _ (by omega) (by omega) (by omega) (by omega)).and ((ab_rowIn (by omega) (by omega)).and ((ab_mk Ds (by omega) (by omega)).and (fun _ _ _ _ h hg _ => Nat.le_trans h hg.size)))))
      case hIx =>
        intro c
        exact (ab_pure _ _ _ (fun _ => c = .ret)).and (((HJx.out.comp _).mono (by rintro r (h | h) <;> right <;> omega)).and (ab_mk Ds (by omega) (by omega)))
      case h0 => exact ⟨by simpa using HJ.out.below HJr.out bB, HSr.out.below bB, HG.out, rd, HM.out.below bB, Nat.le_refl _⟩
      case assign =>
        rintro l' pre' x X K hI' hK
        gi_wp2
        exact hK _ _ (KeepsFrom.refl _ _) (KpR.refl _ _ _) hI' rfl
      case body =>
        rintro l' pre' x _ X hl' _ ⟨hJX, sY, sG, rX, mX, zX⟩ rfl hlen
        have c1 : X.cell? ⟨W.heap.size, 0, none⟩ = some (.func (.yield l) #[] #[]) := sY.cell 0
        have c2 : ∀ j, X.cell? ⟨wr.heap.size, j, none⟩ = (#[.string gn, .int .i64 gl, .int .i64 gm, .string gw] : Array Value)[j]? := fun j => sG.cell j
        obtain ⟨fn, tmps, assign, body, hy, hR⟩ := HY.out (pre ++ pre'.map (fnOf ⟨gn, gl, gm, gw⟩)) (fnOf ⟨gn, gl, gm, gw⟩ x) X hJX (by
          rw [HX'.out]
          unfold fnsOf
          simp
          omega)
        have HR := hide hR
        simp only [fnC, fnOf] at hy
        clear hR
        gi_wp2
        refine ⟨rfl, HR.out.mono ?_⟩
        rintro e X' (⟨rfl, hJ', hk', hkf⟩ | ⟨rfl, hJ', hkf⟩)
        · gi_wp2
          refine ⟨keeps_mono hkf (by omega), hk', ?_, sY.kept hk', sG.kept hk', rX.kept hk', mX.keeps hkf (Nat.le_refl _), Nat.le_trans zX hkf.size⟩
          simpa [fnOf] using hJ'
        · gi_wp2
          refine ⟨keeps_mono hkf (by omega), rfl, ?_, mX.keeps hkf (Nat.le_refl _)⟩
          simpa [fnOf] using hJ'
      case done =>
        rintro D xs X hD rfl ⟨hJX, sY, sG, rX, mX, zX⟩ hd
        have hDX : D < X.heap.size := (Array.getElem?_eq_some_iff.1 hd).1
        gi_wp2
        refine ⟨⟨i + 1, pre ++ fnsOf ⟨gn, gl, gm, gw⟩, D :: Ds, _, _, _, _, _, _, _, _, _, _, _, _, _, _, _, _, by omega, HX'.out, by omega, mX.cons (by omega) (by omega) hDX hd, hJX, sY, rX, rfl⟩, ?_⟩
        simp [intOf]
        omega
      case stop =>
        rintro D c pre' X hD hpre ⟨rfl, hJX, mX⟩ hd
        have hDX : D < X.heap.size := (Array.getElem?_eq_some_iff.1 hd).1
        have hm := mX.cons (M' := X.heap.size) (D := D) (by omega) (by omega) hDX hd
        gi_wp2
        refine leaves_marks (D :: Ds) X hm ⟨.tuple #[], results_none rfl _ _ _, ⟨_, rfl⟩, .inr ⟨_, ?_, shut_ab HJx.out (Nat.le_refl _) _ X hm hJX⟩⟩
        rw [HX'.out, List.append_assoc]
        obtain ⟨q, hq⟩ := hpre
        exact ⟨q.map (fnOf ⟨gn, gl, gm, gw⟩) ++ (tabG.drop (i + 1)).flatMap fnsOf, by unfold fnsOf; rw [← hq]; simp⟩
end Go.Proofs.YtklldmidcmfbdaaGreatDoor
