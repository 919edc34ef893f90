/-
  The contract of rewrite.remadeKids and of rewrite.remade (made by rwgen.py).
-/
import Derived.Test.YtfpmmckpobpokaaGreatMRw3
import Derived.Test.YtfpmmckpobpokaaGreatMRw2b
set_option maxRecDepth 100000
set_option maxHeartbeats 4000000
namespace Go.Proofs.YtfpmmckpobpokaaGreat
open Go.RowKit
def KidCG (D : Do) (f1 f2 : Nat) (l1 l2 : Array Value) (E : World → Prop) (k : Fo) : Prop :=
 ∀ (Dm : Nat → Prop) (a : Option Addr) (n cap : Nat) (w : World), (∀ c, Dm c → c < w.heap.size) → Kv w Dm (.slice a n cap) k → E w → k.many ≤ 4096 →
  Calls Tryz.prog 61 #[.slice a n cap, .agg #[.func (.func f1) #[] l1, .func (.func f2) #[] l2]] w fun e w' => ∃ a' n' cap', e = .returned (.slice a' n' cap') ∧ Kv w' (New w w') (.slice a' n' cap') (remF (D) k) ∧ Below w.heap.size w w'
theorem rem_kidsG (D : Do) (f1 f2 : Nat) (l1 l2 : Array Value) (E : World → Prop) (G : DoOk D f1 f2 l1 l2 E) (k : Fo) (hA : RemAG D f1 f2 l1 l2 E k) : KidCG D f1 f2 l1 l2 E k := by
 intro Dm a n cap w hD hk he hm
 obtain ⟨i0, hinf, hz0, hz1, hz2⟩ := info_parts infoNode3
 obtain ⟨_, _, _, e0, hn, hk⟩ := hk
 cases e0
 subst hn
 have hB0 := hide (below_al w (.cells #[.func (.func f1) #[] l1, .func (.func f2) #[] l2] 78))
 rcases hk with rfl | ⟨b1, o1, rfl, hcap1, hcap2, hrw⟩
 ·
  go_enter Tryz.func61, Tryz.ntmps61
  go_wp2
  go_ret
  exact ⟨_, _, _, rfl, kv_nil _ _ _ _, hB0.out⟩
 ·
  by_cases hk0 : k = .nil
  ·
   subst hk0
   go_enter Tryz.func61, Tryz.ntmps61
   go_wp2
   go_ret
   exact ⟨_, _, _, rfl, kv_nil _ _ _ _, hB0.out⟩
  ·
   have hl0 : k.len ≠ 0 := by
    cases k with
    | nil => exact absurd rfl hk0
    | cons h k r => simp [Fo.len]
   have hlm : k.len ≤ 4096 := Nat.le_trans (len_many k) hm
   have hl1 : ((k.len : Int) == 0) = false := by simp; omega
   have HR := hide hrw
   have HA := hide hA
   clear hA hk0 hrw
   go_enter Tryz.func61, Tryz.ntmps61
   go_wp2_with (with_reducible refine wpl_id ?_; refine wpList_make_full _ rfl _ _ 31 rfl (w.heap.size + 1) 33 i0 (.agg (hdC zh (.slice none 0 0)).toArray) 16 Tryz.underlying31 hinf hz0 hz1 .i64 .i64 _ _ k.len rfl rfl rfl rfl ?b2 ?b3 ?b4 ?_)
   case b2 => rw [hz2]; omega
   case b3 => unfold maxLen; omega
   case b4 => simp
   intro w2 hown hgr
   have HG := hide (made_at (by simp) hown hgr hB0.out)
   clear hown hgr
   have HI := hide (KidAt.first HG.out.1 HG.out.2.1 HG.out.2.2.2 (by omega))
   have y0 : w2.cell? ⟨w.heap.size, 0, none⟩ = some (.func (.func f1) #[] l1) := by rw [HG.out.2.2.1.cell (p := ⟨w.heap.size, 0, none⟩) (by simp)]; simp [go_sem]
   have y1 : w2.cell? ⟨w.heap.size, 1, none⟩ = some (.func (.func f2) #[] l2) := by rw [HG.out.2.2.1.cell (p := ⟨w.heap.size, 1, none⟩) (by simp)]; simp [go_sem]
   go_wp2
   go_loopw [15] (fun u wr => ∃ (i : Nat) (F : Fo) (L : List (Hd × Value)) (F' : Fo), u = .int .i64 (i : Int) ∧ L.length = i ∧ i + F.len = k.len ∧ Row w Dm F b1 (o1 + i * 16) ∧ RemAG D f1 f2 l1 l2 E F ∧ F.many ≤ 4096 ∧ KidAt w (w.heap.size + 1) k.len L F' wr ∧ remF (D) k = joinF F' (remF (D) F) ∧ wr.cell? ⟨w.heap.size, 0, none⟩ = some (.func (.func f1) #[] l1) ∧ wr.cell? ⟨w.heap.size, 1, none⟩ = some (.func (.func f2) #[] l2)) (fun u _ => k.len - (intOf u).toNat)
   case atStart => exact ⟨0, k, [], .nil, rfl, rfl, by omega, by simpa using HR.out, HA.out, hm, HI.out, rfl, y0, y1⟩
   case round =>
    obtain ⟨i, F, L, F', rfl, hL, hl, hrow, hAF, hmF, hKi, hjo, g0, g1⟩ := hrel
    have HJ0 : Hid (remF (D) k = joinF F' (remF (D) F)) := hjo
    clear y0 y1 HI HG HR HA hjo
    match F, hl, hrow, hAF, hmF, HJ0 with
    | .nil, hl, _, _, _, HJ0 =>
     have hli : ¬ (i : Int) < (k.len : Int) := by simp [Fo.len] at hl; omega
     have hj : remF (D) k = F' := by rw [HJ0.out]; exact join_nil F'
     have HK := hide (hKi.kv (by simp [Fo.len] at hl; omega) (by unfold maxLen; omega))
     have HBz := hide hKi.below
     have Hj := hide hj
     clear hKi hj hl hL
     go_wp2
     go_ret
     exact ⟨_, _, _, rfl, by rw [Hj.out]; exact HK.out, HBz.out⟩
    | .cons h1 k1 r1, hl, hrow, hAF, hmF, HJ0 =>
     have hli : (i : Int) < (k.len : Int) := by simp [Fo.len] at hl; omega
     have hl2 : i + 1 + r1.len = k.len := by simp [Fo.len] at hl; omega
     have hmk : k1.many ≤ 4096 := by simp only [Fo.many] at hmF; omega
     have hmr : r1.many ≤ 4096 := by simp only [Fo.many] at hmF; omega
     obtain ⟨d1, x1, z1⟩ := hrow
     have HR1 : Hid (Row w Dm r1 b1 (o1 + (i + 1) * 16)) := by rw [show o1 + (i + 1) * 16 = o1 + i * 16 + 16 by omega]; exact z1
     have hone : Row w Dm (.cons h1 k1 .nil) b1 (o1 + i * 16) := ⟨d1, x1, trivial⟩
     obtain ⟨hA1, hA2⟩ := hAF
     have HA2 := hide hA2
     have HC : Hid (∀ W : World, Below w.heap.size w W → Calls Tryz.prog 32 #[.pointer (some ⟨b1, o1 + i * 16, none⟩), .agg #[.func (.func f1) #[] l1, .func (.func f2) #[] l2]] W fun e w' => ∃ a n cap, e = .returned (.agg (hdC (remH (D) h1) (.slice a n cap)).toArray) ∧ Kv w' (New W w') (.slice a n cap) (remK (D) h1 k1) ∧ Below W.heap.size W w') := fun W hW =>
      hA1 Dm h1 b1 (o1 + i * 16) W (fun c hc => Nat.lt_of_lt_of_le (hD c hc) hW.size) (row_to (fun c hc => ⟨hc, hW.block c (hD c hc)⟩) _ _ _ hone) (G.below he hW) hmk
     have HM := hide hcap2
     have HKi := hide hKi
     have hsz : w.heap.size + 1 < wr.heap.size := hKi.lt
     unfold maxLen at hcap2
     clear hone d1 x1 z1 hA1 hA2 hl hKi hmF
     go_wp2
     refine wp_region_held_drew (S := fun W => W.cell? ⟨w.heap.size, 0, none⟩ = some (.func (.func f1) #[] l1) ∧ W.cell? ⟨w.heap.size, 1, none⟩ = some (.func (.func f2) #[] l2)) (by kernel_rfl) ⟨g0, g1⟩ (fun hHeld => ?_)
     refine takeF 0 (some 18) ?_; refine takeF 1 (some 19) ?_; refine takeF 2 (some 20) ?_; refine takeF 3 (some 21) ?_; refine takeF 4 (some 22) ?_; refine takeF 5 (some 23) ?_
     refine wpAnyH_ready (rs := [6]) (by kernel_rfl) (by simp) ?_
     refine AllReadyH.cons (o := _) rfl (fun K hK => ?_) AllReadyH.nil
     go_simp
     (go_at_call 32; refine (HC.out _ HKi.out.below.drew).mono ?_; rintro e w3 ⟨a3, n3, c3, rfl, hk3, hb3⟩)
     have hb3' : Below wr.heap.size wr w3 := (below_drew0 wr).trans hb3
     have e0 : w3.cell? ⟨w.heap.size, 0, none⟩ = some (.func (.func f1) #[] l1) := (hb3'.cell (p := ⟨w.heap.size, 0, none⟩) (by show w.heap.size < wr.heap.size; omega)).trans g0
     have e1 : w3.cell? ⟨w.heap.size, 1, none⟩ = some (.func (.func f2) #[] l2) := (hb3'.cell (p := ⟨w.heap.size, 1, none⟩) (by show w.heap.size < wr.heap.size; omega)).trans g1
     refine hK.out _ _ ⟨e0, e1⟩ (fun hHeld => ?_)
     clear hK K
     try simp only [Act.put, pA, pB, pC]
     refine takeF 7 (some 25) ?_
     have HN := hide (HKi.out.more (x := remH (D) h1) (by omega) hb3' hk3)
     rw [hL] at HN
     have ht : w3.there (w.heap.size + 1) (i * 16) 16 := fun j hj => by
      have := there_below HKi.out.there HKi.out.lt hb3' (i * 16 + j) (by omega)
      rw [Nat.zero_add] at this
      exact this
     have c0 : ∀ j, (w3.setCells (w.heap.size + 1) (i * 16) (hdC (remH (D) h1) (.slice a3 n3 c3))).cell? ⟨w.heap.size, j, none⟩ = w3.cell? ⟨w.heap.size, j, none⟩ := fun j => World.cell?_setCells_out _ _ _ _ _ (fun e => by simp at e)
     refine wpAnyH_ready (rs := [8]) (by kernel_rfl) (by simp) ?_
     refine readyP (o := _) rfl rfl (fun K hK => ?_) AllReadyH.nil
     refine wp_store_mid 33 _ _ rfl (w.heap.size + 1) (i * 16) (hdC (remH (D) h1) (.slice a3 n3 c3)).toArray rfl rfl ht (by rw [sizeNode]; rfl) (hdC_one _ rfl) ?_
     refine hK.out _ _ ⟨(c0 0).trans e0, (c0 1).trans e1⟩ (fun hHeld => ?_)
     clear hK K
     refine wpAnyH_done (by kernel_rfl) ?_ _
     have HE0 := hide ((c0 0).trans e0)
     have HE1 := hide ((c0 1).trans e1)
     obtain ⟨w4, hw4⟩ : ∃ w4 : World, w4 = w3.setCells (w.heap.size + 1) (i * 16) (hdC (remH (D) h1) (.slice a3 n3 c3)) := ⟨_, rfl⟩
     rw [← hw4] at HN HE0 HE1
     refine wpn_at (W0 := w4) hw4 ?_
     clear hw4 c0 ht hb3 hb3' hk3 e0 e1 g0 g1
     go_wp2
     go_roundw
     case rel => exact ⟨i + 1, r1, _, _, by go_num, by simp [hL], hl2, HR1.out, HA2.out, hmr, HN.out, by rw [HJ0.out, join_snoc]; rfl, HE0.out, HE1.out⟩
     case measure => simp [intOf]; omega
theorem rem_bareG (D : Do) (f1 f2 : Nat) (l1 l2 : Array Value) (E : World → Prop) (G : DoOk D f1 f2 l1 l2 E) (Dm : Nat → Prop) (h : Hd) (k : Fo) (b o : Nat) (w : World) (hD : ∀ c, Dm c → c < w.heap.size) (hr : Row w Dm (.cons h k .nil) b o) (he : E w) (hm : k.many ≤ 4096) (hKc : KidCG D f1 f2 l1 l2 E k) (h2 : h.kind ≠ 2) (h3 : h.kind ≠ 3) :
  Calls Tryz.prog 32 #[.pointer (some ⟨b, o, none⟩), .agg #[.func (.func f1) #[] l1, .func (.func f2) #[] l2]] w fun e w' => ∃ a n cap, e = .returned (.agg (hdC (remH (D) h) (.slice a n cap)).toArray) ∧ Kv w' (New w w') (.slice a n cap) (remK (D) h k) ∧ Below w.heap.size w w' := by
 obtain ⟨hb, ⟨v, hc, hkv⟩, _⟩ := row_cons.1 hr
 replace hb := hD b hb
 obtain ⟨ka, km, kc, rfl⟩ : ∃ a n cap, v = .slice a n cap := by obtain ⟨a, n, cap, e, _⟩ := hkv; exact ⟨a, n, cap, e⟩
 have HC : Hid (∀ W : World, Below w.heap.size w W → Calls Tryz.prog 61 #[.slice ka km kc, .agg #[.func (.func f1) #[] l1, .func (.func f2) #[] l2]] W fun e w' => ∃ a' n' cap', e = .returned (.slice a' n' cap') ∧ Kv w' (New W w') (.slice a' n' cap') (remF (D) k) ∧ Below W.heap.size W w') := fun W hW => hKc Dm ka km kc W (fun c hc => Nat.lt_of_lt_of_le (hD c hc) hW.size) (kv_to hkv (fun c hc => ⟨hc, hW.block c (hD c hc)⟩)) (G.below he hW) hm
 have hH : remH (D) h = bareH h := by unfold remH; rw [if_neg h2, if_neg h3]
 have hK : remK (D) h k = remF (D) k := by unfold remK leafB; simp [h2, h3]
 rw [hH, hK]
 have n2 : (h.kind == 2) = false := by simpa using h2
 have n3 : (h.kind == 3) = false := by simpa using h3
 have c0 : w.cell? ⟨b, o, none⟩ = some (.int .i64 h.kind) := hc 0 (by omega)
 have c1 : w.cell? ⟨b, o + 1, none⟩ = some (.int .i64 h.vk) := hc 1 (by omega)
 have c2 : w.cell? ⟨b, o + 1 + 1, none⟩ = some (.int .i64 h.vn) := hc 2 (by omega)
 have c3 : w.cell? ⟨b, o + 1 + 2, none⟩ = some (.string ⟨h.vs.toArray⟩) := hc 3 (by omega)
 have c4 : w.cell? ⟨b, o + 1 + 3, none⟩ = some (.bool h.vb) := hc 4 (by omega)
 have c5 : w.cell? ⟨b, o + 1 + 4, none⟩ = some (.int .i64 h.vc) := hc 5 (by omega)
 have c14 : w.cell? ⟨b, o + 14, none⟩ = some (.string ⟨h.txt.toArray⟩) := hc 14 (by omega)
 have c15 : w.cell? ⟨b, o + 15, none⟩ = some (.slice ka km kc) := hc 15 (by omega)
 have hb1 : b < w.heap.size + 1 := by omega
 have HX : Hid (Box ((w.alloc (.cells #[.func (.func f1) #[] l1, .func (.func f2) #[] l2] 78)).alloc (.cells (hdC zh (.slice none 0 0)).toArray 33)) (w.heap.size + 1) (hdC zh (.slice none 0 0))) := by
  have := Box.new (w.alloc (.cells #[.func (.func f1) #[] l1, .func (.func f2) #[] l2] 78)) (hdC zh (.slice none 0 0))
  rw [World.size_alloc] at this
  exact this
 have HB := hide (((Below.refl _ w).alloc (Nat.le_refl _) (.cells #[.func (.func f1) #[] l1, .func (.func f2) #[] l2] 78)).alloc (by simp) (.cells (hdC zh (.slice none 0 0)).toArray 33))
 have HRn : Hid (∀ (a : Option Addr) (n cap : Nat) (W : World), (Instr.build 33 #[(0, .int .i64 h.kind), (1, .agg #[.int .i64 h.vk, .int .i64 h.vn, .string ⟨h.vs.toArray⟩, .bool h.vb, .int .i64 h.vc]), (4, .string ⟨h.txt.toArray⟩), (5, .slice a n cap)]).run Tryz.prog W = .ok (.agg (hdC (bareH h) (.slice a n cap)).toArray) W) := fun a n cap W => run_bareN h a n cap W
 generalize remF (D) k = Fk at *
 generalize bareH h = H at *
 generalize h.kind = kd at *
 generalize h.vk = vk at *
 generalize h.vn = vn at *
 generalize h.vs = vs at *
 generalize h.vb = vb at *
 generalize h.vc = vc at *
 generalize h.txt = txt at *
 clear hH hK hc hr hD h2 h3 he hkv hKc
 obtain ⟨W0, hW0⟩ : ∃ W0 : World, W0 = ((w.alloc (.cells #[.func (.func f1) #[] l1, .func (.func f2) #[] l2] 78)).alloc (.cells (hdC zh (.slice none 0 0)).toArray 33)) := ⟨_, rfl⟩
 have HS : Hid (∀ W : World, Below W0.heap.size W0 W → W.cell? ⟨w.heap.size, 0, none⟩ = some (.func (.func f1) #[] l1) ∧ W.cell? ⟨w.heap.size, 1, none⟩ = some (.func (.func f2) #[] l2) ∧ W.cell? ⟨b, o, none⟩ = some (.int .i64 kd) ∧ W.cell? ⟨b, o + 1, none⟩ = some (.int .i64 vk) ∧ W.cell? ⟨b, o + 1 + 1, none⟩ = some (.int .i64 vn) ∧ W.cell? ⟨b, o + 1 + 2, none⟩ = some (.string ⟨vs.toArray⟩) ∧ W.cell? ⟨b, o + 1 + 3, none⟩ = some (.bool vb) ∧ W.cell? ⟨b, o + 1 + 4, none⟩ = some (.int .i64 vc) ∧ W.cell? ⟨b, o + 14, none⟩ = some (.string ⟨txt.toArray⟩) ∧ W.cell? ⟨b, o + 15, none⟩ = some (.slice ka km kc)) := fun W hW => by
  have hB0 : Below w.heap.size w W0 := by rw [hW0]; exact HB.out
  have hw := hB0.trans (hW.mono hB0.size)
  have hd : W0.cell? ⟨w.heap.size, 0, none⟩ = some (.func (.func f1) #[] l1) := by rw [hW0]; simp [go_sem]
  have hd1 : W0.cell? ⟨w.heap.size, 1, none⟩ = some (.func (.func f2) #[] l2) := by rw [hW0]; simp [go_sem]
  have hs : w.heap.size < W0.heap.size := by rw [hW0]; simp; omega
  exact ⟨(hW.cell (p := ⟨w.heap.size, 0, none⟩) hs).trans hd, (hW.cell (p := ⟨w.heap.size, 1, none⟩) hs).trans hd1, (hw.cell (p := ⟨b, o, none⟩) hb).trans c0, (hw.cell (p := ⟨b, o + 1, none⟩) hb).trans c1, (hw.cell (p := ⟨b, o + 1 + 1, none⟩) hb).trans c2, (hw.cell (p := ⟨b, o + 1 + 2, none⟩) hb).trans c3, (hw.cell (p := ⟨b, o + 1 + 3, none⟩) hb).trans c4, (hw.cell (p := ⟨b, o + 1 + 4, none⟩) hb).trans c5, (hw.cell (p := ⟨b, o + 14, none⟩) hb).trans c14, (hw.cell (p := ⟨b, o + 15, none⟩) hb).trans c15⟩
 go_enter Tryz.func32, Tryz.ntmps32
 go_wp2_with fail
 refine wp_at (W0 := W0) hW0 ?_
 have HX0 : Hid (Box W0 (w.heap.size + 1) (hdC zh (.slice none 0 0))) := by rw [hW0]; exact HX.out
 have HB0 : Hid (Below w.heap.size w W0) := by rw [hW0]; exact HB.out
 have hz : w.heap.size + 1 < W0.heap.size := HX0.out.lt
 clear hW0 HX HB c0 c1 c2 c3 c4 c5 c14 c15
 refine wp_region_held_drew (S := fun W => W.cell? ⟨w.heap.size, 0, none⟩ = some (.func (.func f1) #[] l1) ∧ W.cell? ⟨w.heap.size, 1, none⟩ = some (.func (.func f2) #[] l2) ∧ W.cell? ⟨b, o, none⟩ = some (.int .i64 kd) ∧ W.cell? ⟨b, o + 1, none⟩ = some (.int .i64 vk) ∧ W.cell? ⟨b, o + 1 + 1, none⟩ = some (.int .i64 vn) ∧ W.cell? ⟨b, o + 1 + 2, none⟩ = some (.string ⟨vs.toArray⟩) ∧ W.cell? ⟨b, o + 1 + 3, none⟩ = some (.bool vb) ∧ W.cell? ⟨b, o + 1 + 4, none⟩ = some (.int .i64 vc) ∧ W.cell? ⟨b, o + 14, none⟩ = some (.string ⟨txt.toArray⟩) ∧ W.cell? ⟨b, o + 15, none⟩ = some (.slice ka km kc)) (by kernel_rfl) (HS.out _ (below_drew0 W0)) (fun hHeld => ?_)
 refine takeF 0 (some 52) ?_; refine takeF 1 (some 53) ?_; refine takeF 2 (some 54) ?_; refine takeF 3 (some 55) ?_; refine takeF 4 (some 56) ?_; refine takeF 5 (some 57) ?_; refine takeF 6 (some 58) ?_; refine takeF 7 (some 59) ?_; refine takeF 8 (some 60) ?_; refine takeF 9 (some 61) ?_; refine takeF 10 (some 62) ?_; refine takeF 11 (some 63) ?_; refine takeF 12 (some 64) ?_; refine takeF 13 (some 65) ?_; refine takeF 14 (some 66) ?_; refine takeF 15 (some 67) ?_; refine takeF 16 (some 68) ?_
 refine wpAnyH_ready (rs := [17]) (by kernel_rfl) (by simp) ?_
 refine AllReadyH.cons (o := _) rfl (fun K hK => ?_) AllReadyH.nil
 go_simp
 (go_at_call 61; refine (HC.out _ HB0.out.drew).mono ?_; rintro e w1 ⟨a1, n1, p1, rfl, hk1, hb2⟩)
 have hbd : Below W0.heap.size W0 w1 := (below_drew0 W0).trans hb2
 have HX1 := hide (HX0.out.below hbd)
 have HB1 := hide (HB0.out.trans (hbd.mono HB0.out.size))
 have HBd := hide hbd
 have HK1 := hide hk1
 refine hK.out _ _ (HS.out _ hbd) (fun hHeld => ?_)
 clear hK K hbd hb2 hk1
 try simp only [Act.put, pA, pB, pC]
 (refine takeE (i := 18) (some 70) rfl rfl (by kernel_rfl) (v := .agg (hdC H (.slice a1 n1 p1)).toArray) rfl (fun W hSW => exec_buildD 33 _ rfl (qs := #[(0, .int .i64 kd), (1, .agg #[.int .i64 vk, .int .i64 vn, .string ⟨vs.toArray⟩, .bool vb, .int .i64 vc]), (4, .string ⟨txt.toArray⟩), (5, .slice a1 n1 p1)]) rfl (HRn.out a1 n1 p1 _)) (by assumption) ?_; try simp only [Act.put, pA, pB, pC])
 refine wpAnyH_ready (rs := [19]) (by kernel_rfl) (by simp) ?_
 refine readyP (o := _) rfl rfl (fun K hK => ?_) AllReadyH.nil
 refine wp_storeNd _ _ rfl _ rfl rfl HX1.out rfl ?_
 have HSr := hide (HS.out _ HBd.out)
 have c0 : ∀ (q j : Nat), q ≠ w.heap.size + 1 → (w1.setRow (w.heap.size + 1) (hdC H (.slice a1 n1 p1)).toArray).cell? ⟨q, j, none⟩ = w1.cell? ⟨q, j, none⟩ := fun q j hq => World.cell?_of_block (a := ⟨q, j, none⟩) (setRow_heap _ _ _ _ hq)
 refine hK.out _ _ (by rw [c0 _ _ (by omega), c0 _ _ (by omega), c0 _ _ (by omega), c0 _ _ (by omega), c0 _ _ (by omega), c0 _ _ (by omega), c0 _ _ (by omega), c0 _ _ (by omega), c0 _ _ (by omega), c0 _ _ (by omega)]; exact HSr.out) (fun hHeld => ?_)
 clear hK K
 refine wpAnyH_done (by kernel_rfl) ?_ _
 go_wp2
 refine bodyPost_ret (Box.ret rfl (HX1.out.set _) rfl) rfl ⟨_, _, _, rfl, ?_, below_set HB1.out (by omega) _⟩
 refine kv_to HK1.out (fun c hc => ?_)
 have h1 : W0.heap.size ≤ c := hc.1
 exact ⟨⟨by omega, by rw [setRow_size]; exact hc.2⟩, setRow_heap _ _ _ _ (by omega)⟩
theorem rem_stepG (D : Do) (f1 f2 : Nat) (l1 l2 : Array Value) (E : World → Prop) (G : DoOk D f1 f2 l1 l2 E) (k : Fo) (hA : RemAG D f1 f2 l1 l2 E k) : RemCG D f1 f2 l1 l2 E k := by
 intro Dm h b o w hD hr he hm
 by_cases h2 : h.kind = 2
 ·
  exact rem_cellG D f1 f2 l1 l2 E G Dm h k b o w hD hr he h2
 ·
  by_cases h3 : h.kind = 3
  ·
   exact rem_spanG D f1 f2 l1 l2 E G Dm h k b o w hD hr he h3
  ·
   exact rem_bareG D f1 f2 l1 l2 E G Dm h k b o w hD hr he hm (rem_kidsG D f1 f2 l1 l2 E G k hA) h2 h3
theorem rem_allG (D : Do) (f1 f2 : Nat) (l1 l2 : Array Value) (E : World → Prop) (G : DoOk D f1 f2 l1 l2 E) : ∀ (F : Fo), RemAG D f1 f2 l1 l2 E F
 | .nil => trivial
 | .cons _ k r => ⟨rem_stepG D f1 f2 l1 l2 E G k (rem_allG D f1 f2 l1 l2 E G k), rem_allG D f1 f2 l1 l2 E G r⟩
theorem rem_anyG (D : Do) (f1 f2 : Nat) (l1 l2 : Array Value) (E : World → Prop) (G : DoOk D f1 f2 l1 l2 E) (k : Fo) : RemCG D f1 f2 l1 l2 E k := rem_stepG D f1 f2 l1 l2 E G k (rem_allG D f1 f2 l1 l2 E G k)
end Go.Proofs.YtfpmmckpobpokaaGreat
