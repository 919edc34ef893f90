/-
  The contract of the statements' copied: a node in memory of its own.
-/
import Derived.Test.YtfpmmckpobpokaaGreatMRwK1
set_option maxRecDepth 100000
set_option maxHeartbeats 4000000
namespace Go.Proofs.YtfpmmckpobpokaaGreat
open Go.RowKit
structure RowAt (B : World) (v : Value) (L : List (Hd × Value)) (F : Fo) (wr : World) : Prop where
 own : wr.ownsRow B.heap.size 33 16 v L.length (cellsN L)
 ent : Ent wr (Off B v wr) L F
 below : Below B.heap.size B wr
theorem RowAt.first (B : World) : RowAt B (.slice none 0 0) [] .nil B := ⟨World.ownsRow_nil _ _ _ _, trivial, Below.refl _ _⟩
theorem RowAt.kv {B wr : World} {v : Value} {L : List (Hd × Value)} {F : Fo} (h : RowAt B v L F wr) : ∃ a n cap, v = .slice a n cap ∧ Kv wr (New B wr) (.slice a n cap) F := by
 by_cases hL : 1 ≤ L.length
 ·
  obtain ⟨g, cap, rfl, hb, hg, hnc, hcm, hc⟩ := own_slice h.own hL
  refine ⟨_, _, _, rfl, _, _, _, rfl, ent_len _ _ h.ent, .inr ⟨g, 0, rfl, hnc, hcm, ?_⟩⟩
  exact ent_row ⟨hb, hg⟩ L F 0 (fun j u hu => by rw [Nat.zero_add]; exact hc j u hu) (ent_to (fun b hb => ⟨⟨hb.1, hb.2.2⟩, rfl⟩) L F h.ent)
 ·
  have h0 : L = [] := List.length_eq_zero_iff.1 (by omega)
  subst h0
  have hF := h.ent
  have hown := h.own
  match F, hF with
  | .nil, _ =>
   rcases hown.2 with ⟨rfl, _⟩ | ⟨g, cap, cur, rfl, _⟩
   ·
    exact ⟨_, _, _, rfl, kv_nil _ _ _ _⟩
   ·
    exact ⟨_, _, _, rfl, kv_nil _ _ _ _⟩
theorem RowAt.more {B wr w1 w4 : World} {v v' : Value} {L : List (Hd × Value)} {F : Fo} {h : Hd} {a : Option Addr} {n cap : Nat} {k : Fo} (hA : RowAt B v L F wr) (hb1 : Below wr.heap.size wr w1) (hk : Kv w1 (New wr w1) (.slice a n cap) k)
  (hown : w4.ownsRow B.heap.size 33 16 v' (L.length + 1) (cellsN L ++ hdC h (.slice a n cap))) (hg : (w1.alloc (.cells (hdC h (.slice a n cap)).toArray 33)).grownBy w4 v.ownBlock) (hw : v'.ownBlock = v.ownBlock ∨ v'.ownBlock = some (w1.heap.size + 1)) :
  RowAt B v' (L ++ [(h, .slice a n cap)]) (F.snoc h k) w4 := by
 have s0 := hA.below.size
 have s1 := hb1.size
 have s3 : w1.heap.size + 1 ≤ w4.heap.size := by have := hg.size; simpa using this
 have hlt : ∀ b, v.ownBlock = some b → b < wr.heap.size ∧ B.heap.size ≤ b := fun b e => by have := hA.own.lt b e; omega
 have hb3 : ∀ b, b < w1.heap.size → v.ownBlock ≠ some b → w4.heap[b]? = w1.heap[b]? := fun b hb hn => by
  rw [hg.block b (by simp; omega) (fun e => hn e.symm), Below.heap_alloc _ _ _ hb]
 have hvo : ∀ b, b < w1.heap.size → v.ownBlock ≠ some b → v'.ownBlock ≠ some b := fun b hb hn e => by
  rcases hw with hw | hw
  ·
   rw [hw] at e; exact hn e
  ·
   rw [hw] at e; simp at e; omega
 have hbw : ∀ b, b < B.heap.size → w4.heap[b]? = wr.heap[b]? := fun b hb => by
  rw [hb3 b (by omega) (fun e => by have := hlt b e; omega), hb1.block b (by omega)]
 refine ⟨?_, ent_snoc (kv_to hk fun b hb => ?_) L F (ent_to (fun b hb => ?_) L F hA.ent), ?_⟩
 ·
  have : cellsN (L ++ [(h, .slice a n cap)]) = cellsN L ++ hdC h (.slice a n cap) := by simp [cellsN]
  rw [this, List.length_append]
  exact hown
 ·
  have h1 := hb.1
  have h2 := hb.2
  have hn : v.ownBlock ≠ some b := fun e => by have := hlt b e; omega
  exact ⟨⟨by omega, hvo b h2 hn, by omega⟩, hb3 b h2 hn⟩
 ·
  obtain ⟨q1, q2, q3⟩ := hb
  refine ⟨⟨q1, hvo b (by omega) q2, by omega⟩, ?_⟩
  rw [hb3 b (by omega) q2, hb1.block b (by omega)]
 ·
  refine ⟨hg.os.trans (hb1.os.trans hA.below.os), hg.tape.trans (hb1.tape.trans hA.below.tape), hg.output.trans (hb1.output.trans hA.below.output), by omega, fun b hb => ?_⟩
  rw [hbw b hb, hA.below.block b hb]
def CopyC (h : Hd) (k : Fo) : Prop :=
 ∀ (D : Nat → Prop) (v : Value) (w : World), k.many + 1 ≤ 4096 → (∀ c, D c → c < w.heap.size) → Kv w D v k →
  Calls Tryz.prog 11 #[.agg (hdC h v).toArray] w fun e w' => ∃ a n cap, e = .returned (.agg (hdC h (.slice a n cap)).toArray) ∧ Kv w' (New w w') (.slice a n cap) k ∧ Below w.heap.size w w'
def CopyA : Fo → Prop
 | .nil => True
 | .cons h k r => CopyC h k ∧ CopyA r
theorem copy_step (h : Hd) (k : Fo) (hA : CopyA k) : CopyC h k := by
 intro D v w hm hD hk
 obtain ⟨i0, hinf, hz0, hz1, hz2⟩ := info_parts infoNode3
 obtain ⟨a, n, cap, rfl, hn, hk⟩ := hk
 subst hn
 have HX := hide ((Box.new w (hdC h (.slice a k.len cap))).alloc (.cells (hdC zh (.slice none 0 0)).toArray 33))
 have HZ : Hid (Box ((w.alloc (.cells (hdC h (.slice a k.len cap)).toArray 33)).alloc (.cells (hdC zh (.slice none 0 0)).toArray 33)) (w.heap.size + 1) (hdC zh (.slice none 0 0))) := by
  have := Box.new (w.alloc (.cells (hdC h (.slice a k.len cap)).toArray 33)) (hdC zh (.slice none 0 0))
  exact hide (by simpa using this)
 have HB := hide (((Below.refl _ w).alloc (Nat.le_refl _) (.cells (hdC h (.slice a k.len cap)).toArray 33)).alloc (by simp) (.cells (hdC zh (.slice none 0 0)).toArray 33))
 have HK1 := hide hk
 have HA := hide hA
 have hlm := len_many k
 have p15 := HX.out.cell 15 (.slice a k.len cap) rfl
 clear hk hA
 obtain ⟨B, hBe⟩ : ∃ B : World, B = (w.alloc (.cells (hdC h (.slice a k.len cap)).toArray 33)).alloc (.cells (hdC zh (.slice none 0 0)).toArray 33) := ⟨_, rfl⟩
 have hBs : B.heap.size = w.heap.size + 2 := by rw [hBe]; simp
 have HBe := hide hBe
 rw [← hBe] at HX HZ HB
 clear hBe
 go_enter Tryz.func11, Tryz.ntmps11
 go_wp2
 go_loopw [3, 4] (fun uv ui wr => ∃ (i : Nat) (u : Value) (L : List (Hd × Value)) (G F : Fo), uv = u ∧ ui = .int .i64 (i : Int) ∧ L.length = i ∧ i + F.len = k.len ∧ RowAt B u L G wr ∧ joinF G F = k ∧ (F = .nil ∨ ∃ b' o', a = some ⟨b', o', none⟩ ∧ k.len ≤ cap ∧ cap ≤ maxLen ∧ Row w D F b' (o' + i * 16)) ∧ CopyA F ∧ F.many ≤ k.many ∧ wr.cell? ⟨w.heap.size, 15, none⟩ = some (.slice a k.len cap)) (fun _ ui _ => k.len - (intOf ui).toNat)
 case atStart =>
  refine ⟨0, .slice none 0 0, [], .nil, k, rfl, rfl, rfl, by omega, HBe.out ▸ RowAt.first B, rfl, ?_, HA.out, Nat.le_refl _, p15⟩
  rcases HK1.out with e | ⟨b', o', e1, e2, e3, e4⟩
  ·
   exact .inl e
  ·
   exact .inr ⟨b', o', e1, e2, e3, by simpa using e4⟩
 case round =>
  clear p15
  obtain ⟨i, u, L, G, F, rfl, rfl, hLi, hl, hR, hj, hF, hAF, hmF, c15⟩ := hrel
  have HR := hide hR
  have hsz := hR.below.size
  have hown := hR.own
  have HJ := hide hj
  clear hR hj
  match F, hl, hF, hAF, hmF, HJ with
  | .nil, hl, _, _, _, HJ =>
   have hli : ¬ (i : Int) < (k.len : Int) := by simp [Fo.len] at hl; omega
   obtain ⟨a9, n9, c9, rfl, hkv⟩ := HR.out.kv
   have HKV := hide hkv
   have HX1 := hide ((HX.out.below HR.out.below).kids (.slice a9 n9 c9))
   have HZ1 := hide ((HZ.out.below HR.out.below).cellset (b' := w.heap.size) (by omega) 15 (.slice a9 n9 c9))
   have HF15 : wr.frozen? ⟨w.heap.size, 15, none⟩ = false := by
    have := HX.out.below HR.out.below
    unfold Box at this
    simp [World.frozen?, this]
   clear hkv hown hlm hm hmF
   go_wp2_with (first | (with_reducible refine wpl_id ?_; refine wpl_load rfl _ rfl _ rfl (by ((repeat' (first | with_reducible (first | exact Hid.out (by assumption) | apply Box.set | exact Box.new _ _ | apply Box.other | apply Box.alloc | apply Box.drew | apply Box.drewN) | omega)); done)) ?_) | (with_reducible refine wpl_id ?_; refine wpl_store rfl _ _ rfl _ rfl rfl (by ((repeat' (first | with_reducible (first | exact Hid.out (by assumption) | apply Box.set | exact Box.new _ _ | apply Box.other | apply Box.alloc | apply Box.drew | apply Box.drewN) | omega)); done)) rfl ?_))
   refine bodyPost_ret (Box.ret rfl (HZ1.out.set _) rfl) rfl ⟨a9, n9, c9, rfl, ?_, ?_⟩
   ·
    have hG : G = k := by have := HJ.out; rwa [join_nil] at this
    subst hG
    refine kv_to HKV.out (fun c hc => ?_)
    have h1 : B.heap.size ≤ c := hc.1
    refine ⟨⟨by omega, by rw [setRow_size]; simpa using hc.2⟩, ?_⟩
    rw [setRow_heap _ _ _ _ (by omega)]
    show (wr.heap.modify w.heap.size _)[c]? = _
    rw [Array.getElem?_modify, if_neg (by omega)]
   ·
    have b1 : Below w.heap.size w wr := HB.out.trans (HR.out.below.mono (by omega))
    exact below_set (b1.setCell (Nat.le_refl _) _) (by omega) _
  | .cons h1 k1 r1, hl, hF, hAF, hmF, HJ =>
   have hli : (i : Int) < (k.len : Int) := by simp [Fo.len] at hl; omega
   have hl2 : i + 1 + r1.len = k.len := by simp [Fo.len] at hl; omega
   have hm1 : k1.many + 1 ≤ 4096 ∧ r1.many ≤ k.many := by simp only [Fo.many] at hmF; omega
   obtain ⟨b1, o1, rfl, hcap1, hcap2, hrw⟩ : ∃ b' o', a = some ⟨b', o', none⟩ ∧ k.len ≤ cap ∧ cap ≤ maxLen ∧ Row w D (.cons h1 k1 r1) b' (o' + i * 16) := by
    rcases hF with e | e
    ·
     cases e
    ·
     exact e
   obtain ⟨d1, ⟨v1, x1, y1⟩, z1⟩ := row_cons.1 hrw
   have hBw : Below w.heap.size w wr := HB.out.trans (HR.out.below.mono (by omega))
   have HR1 : Hid (Row w D r1 b1 (o1 + (i + 1) * 16)) := by rw [show o1 + (i + 1) * 16 = o1 + i * 16 + 16 by omega]; exact z1
   have HXc : Hid (∀ j, j < 16 → wr.cell? ⟨b1, o1 + i * 16 + j, none⟩ = (hdC h1 v1)[j]?) := fun j hj => by rw [hBw.cell (p := ⟨b1, o1 + i * 16 + j, none⟩) (hD b1 d1)]; exact x1 j hj
   obtain ⟨hA1, hA2⟩ := hAF
   have HA2 := hide hA2
   have HC : Hid (Calls Tryz.prog 11 #[.agg (hdC h1 v1).toArray] wr fun e w' => ∃ a n cap, e = .returned (.agg (hdC h1 (.slice a n cap)).toArray) ∧ Kv w' (New wr w') (.slice a n cap) k1 ∧ Below wr.heap.size wr w') :=
    hA1 D v1 wr hm1.1 (fun c hc => Nat.lt_of_lt_of_le (hD c hc) hBw.size) (kv_to y1 (fun b hb => ⟨hb, hBw.block b (hD b hb)⟩))
   have HJ2 : Hid (∀ x k', joinF (G.snoc x k') r1 = joinF G (.cons x k' r1)) := fun x k' => join_snoc G x k' r1
   have HM1 := hide hcap2
   have HM2 := hide hm1.2
   unfold maxLen at hcap2
   clear hrw d1 x1 y1 z1 hA1 hA2 hF hl hmF hm1 hBw
   go_wp2_with (first | (with_reducible refine wpl_id ?_; refine wpl_loadAt rfl _ rfl _ _ rfl HXc.out ?_) | (go_at_call 11; refine HC.out.mono ?_; rintro e w1 ⟨a1, n1, c1, rfl, hk1, hb1⟩; have HKn := hide hk1; have HBr := hide hb1; have s1 := hb1.size; have HO3 := hide ((own_below hown hb1).alloc (.cells (hdC h1 (.slice a1 n1 c1)).toArray 33)); clear hk1 hb1) | (with_reducible refine wpl_id ?_; refine wpl_buildS rfl _ _ _ rfl (qs := #[(0, .agg (hdC h1 (.slice a1 n1 c1)).toArray)]) rfl (build1 h1 (.slice a1 n1 c1) _) ?_) | (at_builtin; go_loud (refine wpList_append_own_at _ rfl _ _ 31 rfl B.heap.size 33 i0 (.agg (hdC zh (.slice none 0 0)).toArray) 16 144 Tryz.underlying31 hinf hz0 hz1 hz2 rfl (by decide) _ _ _ rfl HO3.out ⟨w1.heap.size, 0, none⟩ 1 1 (hdC h1 (.slice a1 n1 c1)) rfl rfl ?c1 ?c2 ?c3 ?c4 ?c5 ?_)))
   case c1 =>
    intro j u hu
    have := cells_new w1 (hdC h1 (.slice a1 n1 c1)).toArray 33 j u (by simpa using hu)
    exact this
   case c2 =>
    have := hdC_one h1 (v := .slice a1 n1 c1) rfl
    rw [Array.all_eq_true_iff_forall_mem] at this
    exact fun u hu => this u (by simpa using hu)
   case c3 => unfold maxLen; omega
   case c4 => omega
   case c5 => simp; omega
   intro v' w4 hown4 hgr4 _ hwh4
   have hN := RowAt.more (h := h1) HR.out HBr.out HKn.out (by rw [hBs, hLi]; exact hown4) hgr4 (by simpa using hwh4)
   have HN := hide hN
   have k15 : w4.cell? ⟨w.heap.size, 15, none⟩ = some (.slice (some ⟨b1, o1, none⟩) k.len cap) := (HX.out.below hN.below).cell 15 (.slice (some ⟨b1, o1, none⟩) k.len cap) rfl
   clear hown4 hgr4 hwh4 hN HO3 hown
   go_wp2
   go_roundw
   case rel => exact ⟨i + 1, v', _, _, r1, rfl, by go_num, by simp [hLi], by omega, HN.out, by rw [HJ2.out]; exact HJ.out, .inr ⟨b1, o1, rfl, hcap1, HM1.out, HR1.out⟩, HA2.out, HM2.out, k15⟩
   case measure => simp [intOf]; omega
theorem copy_all : ∀ (F : Fo), CopyA F
 | .nil => trivial
 | .cons h k r => ⟨copy_step h k (copy_all k), copy_all r⟩
theorem copy_any (h : Hd) (k : Fo) : CopyC h k := copy_step h k (copy_all k)
end Go.Proofs.YtfpmmckpobpokaaGreat
