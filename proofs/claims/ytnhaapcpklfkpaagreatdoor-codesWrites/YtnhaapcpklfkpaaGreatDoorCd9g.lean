/-
  The contract of codes' ofNumber, where a number is written.
-/
import Derived.Test.YtnhaapcpklfkpaaGreatDoorCd9f
namespace Go.Proofs.YtnhaapcpklfkpaaGreatDoor
open Go.RowKit
set_option linter.unusedSimpArgs false

theorem flat_len {α : Type} {f : α → List UInt8} {K : Nat} : ∀ (l : List α), (∀ q ∈ l, (f q).length ≤ K) → (l.flatMap f).length ≤ l.length * K
  | [], _ => by simp
  | a :: l, h => by
    have h1 := h a (by simp)
    have h2 := flat_len l fun q hq => h q (by simp [hq])
    simp only [List.flatMap_cons, List.length_append, List.length_cons, Nat.add_mul, Nat.one_mul]
    omega
theorem secTs_len {ps : List Pc} (h : Sane ps) {p : Plc} (hp : p.noughts ≤ 60 ∧ p.fixed ≤ 60) {n y m d : Nat} {x : List UInt8} (hn : n ≤ 9223372036854775807) (hy : y ≤ 100000) (hm : m ≤ 100000) (hd : d ≤ 100000) (hx : x.length ≤ 5000) : (secT p n y m d x ps).length ≤ 300000 := by
  have h1 := flat_len ps (piece_len h hp hn hy hm hd hx)
  have h2 := h.len
  have h3 : ps.length * 5000 ≤ 60 * 5000 := Nat.mul_le_mul_right _ h2
  unfold secT
  omega
theorem app_str (a b : List UInt8) : (⟨a.toArray⟩ : ByteArray) ++ (⟨b.toArray⟩ : ByteArray) = ⟨(a ++ b).toArray⟩ := by
  apply ByteArray.ext
  simp
set_option maxHeartbeats 4000000 in
theorem ofNumber_plus (B0 g cap : Nat) (G : List (Value × List Pc)) (n : Int) (u : Value) (ps : List Pc) (m : Nat) (w : World) (hs : SsAt w g cap G) (hB : B0 ≤ g) (hle : 1 ≤ (leftG G).length) (hx : (leftG G)[chosenR (leftG G).length n]? = some (u, ps)) (hk : kindS ps ≠ 3) (hf : fitsB n = true)
    (hz : sizedR ps (max n (-n)) = ((m : Int), 0)) (hm : m ≤ 9223372036854775807) (ht : ∀ W, Below B0 w W → TabOk W) (hsg : ¬ ((leftG G).length = 1 ∧ n < 0)) :
    Calls Tryz.prog 10 #[.slice (some ⟨g, 0, none⟩) G.length cap, .int .i64 n] w fun e w' => e = .returned (.tuple #[.string ⟨(secT (plcOf ps) m 0 0 0 [] ps).toArray⟩, .int .i64 0]) ∧ Below B0 w w' := by
  have HD := hide hs.del
  have hgl : g < w.heap.size := hs.secs.1
  have HG : Hid (∀ W, w.grownBy W (some g) → Below B0 w W) := fun W hg => (Below.refl B0 w).grown hg (by omega) (fun k e => by cases e; exact hB)
  have HL : Hid (∀ W, w.grownBy W (some g) → PcsAt W u ps) := fun W hg => ((left_at hs hg).2 _ (List.mem_of_getElem? hx)).1
  have hl3 : (leftG G).length ≤ 3 := Nat.le_trans (List.length_filter_le _ _) hs.three
  have hlt := chosen_lt (n := n) hle
  obtain ⟨q1, q2, q3, rfl⟩ : ∃ q1 q2 q3, u = .slice q1 q2 q3 := by
    obtain ⟨p, c, e, _⟩ := HL.out w (grown_refl w g)
    exact ⟨_, _, _, e⟩
  obtain ⟨n1, n2⟩ := fitsB_true hf
  have hsa : Sane ps := ((left_at hs (grown_refl w g)).2 _ (List.mem_of_getElem? hx)).2
  have HZ : Hid (∀ W : World, Calls Tryz.prog 35 #[.pointer (some ⟨W.heap.size, 0, none⟩), .int .i64 (max n (-n))] (W.alloc (.cells (secC (.slice q1 q2 q3) ps).toArray 66)) fun e w' => e = .returned (.tuple #[.int .i64 m, .int .i64 0]) ∧ Below (W.alloc (.cells (secC (.slice q1 q2 q3) ps).toArray 66)).heap.size (W.alloc (.cells (secC (.slice q1 q2 q3) ps).toArray 66)) w') := fun W => by
    have := sized_any W.heap.size 0 (.slice q1 q2 q3) ps (max n (-n)) _ (secAt_new W (.slice q1 q2 q3) ps) (Nat.le_trans (cnt_le ps 2) (by have := hsa.len; omega)) (by have := hsa.plc; omega) (by have := hsa.plc; omega)
    rw [hz] at this
    exact this
  have HCh : Hid (∀ W : World, Calls Tryz.prog 32 #[.int .i64 (leftG G).length, .int .i64 n] W fun e w' => e = .returned (.int .i64 (chosenR (leftG G).length n)) ∧ w' = W) := fun W => chosen_any _ n W
  have HX := hide hx
  have HC : Hid (∀ W0 W : World, Below B0 w W0 → PcsAt W0 (.slice q1 q2 q3) ps → Below (W0.alloc (.cells (secC (.slice q1 q2 q3) ps).toArray 66)).heap.size (W0.alloc (.cells (secC (.slice q1 q2 q3) ps).toArray 66)) W → Calls Tryz.prog 30 #[.pointer (some ⟨W0.heap.size, 0, none⟩), .agg (wrC (plcOf ps) m 0 0 0 []).toArray] W fun e w' => e = .returned (.string ⟨(secT (plcOf ps) m 0 0 0 [] ps).toArray⟩) ∧ Below W.heap.size W w') := fun W0 W h0 hp hW =>
    have hb0 : Below W0.heap.size W0 (W0.alloc (.cells (secC (.slice q1 q2 q3) ps).toArray 66)) := (Below.refl _ _).alloc (Nat.le_refl _) _
    have h0s : B0 ≤ W0.heap.size := by have := h0.size; omega
    write_any W0.heap.size 0 (.slice q1 q2 q3) ps (plcOf ps) m 0 0 0 [] W ((secAt_new W0 (.slice q1 q2 q3) ps).below hW) ((hp.below hb0).below hW) (ht W (h0.trans ((up hb0 hW).mono h0s))) hm (by have := hsa.plc; omega) (by have := hsa.plc; omega) (by omega) (by omega) (by omega) (fun q hq => by have := hsa.texts q hq; omega) (piece_len hsa ⟨hsa.plc.1, hsa.plc.2.1⟩ hm (by omega) (by omega) (by omega) (by simp)) (by have := hsa.len; omega)
  have hl0 : (((leftG G).length : Int) == 0) = false := by rw [beq_eq_false_iff_ne]; omega
  have hcapi : (cap : Int) ≤ 9223372036854775807 := by have := hs.mx; unfold maxLen at this; omega
  have hlc : ((leftG G).length : Int) ≤ (cap : Int) := by have h1 : (leftG G).length ≤ G.length := List.length_filter_le _ _; have := hs.le; omega
  have hlti : ((chosenR (leftG G).length n : Nat) : Int) < ((leftG G).length : Int) := by omega
  have hl3i : ((leftG G).length : Int) ≤ 3 := by omega
  generalize hL : leftG G = L at *
  generalize hc : chosenR L.length n = c at *
  clear hs hx hL hc hz hf ht
  have HK : Hid (∀ W : World, Calls Tryz.prog 33 #[.pointer (some ⟨W.heap.size, 0, none⟩)] (W.alloc (.cells (secC (.slice q1 q2 q3) ps).toArray 66)) fun e w' => e = .returned (.int .i64 (kindS ps)) ∧ w' = W.alloc (.cells (secC (.slice q1 q2 q3) ps).toArray 66)) := fun W => by
    have := kind_any W.heap.size 0 (.slice q1 q2 q3) ps _ (secAt_new W (.slice q1 q2 q3) ps)
    exact this
  have hSl := secTs_len hsa (p := plcOf ps) ⟨hsa.plc.1, hsa.plc.2.1⟩ hm (y := 0) (m := 0) (d := 0) (x := []) (by omega) (by omega) (by omega) (by simp)
  clear hsa hm
  simp only [wrC] at HC
  simp only [secC, cn] at HK HZ HC
  generalize secT (plcOf ps) m 0 0 0 [] ps = S at *
  have hS1 : ¬ 9223372036854775807 < S.length := by omega
  have hS2 : ¬ 9223372036854775807 < S.length + 1 := by omega
  have hS3 : ¬ 9223372036854775807 < 1 + S.length := by omega
  have hk3 : ((kindS ps : Int) == 3) = false := by rw [beq_eq_false_iff_ne]; omega
  generalize kindS ps = K at *
  clear hk
  have hsp : (((L.length : Int) == 1) = false) ∨ ((((L.length : Int) == 1) = true) ∧ ¬ n < 0) := by
    by_cases e : L.length = 1
    · exact .inr ⟨by rw [beq_iff_eq]; omega, fun h => hsg ⟨e, h⟩⟩
    · exact .inl (by rw [beq_eq_false_iff_ne]; omega)
  clear hsg
  rcases hsp with e1 | ⟨e1, e2⟩
  all_goals
    go_enter Tryz.func10, Tryz.ntmps10
    go_wp2_with (first | (go_at_call 31; refine HD.out.mono ?_; rintro e w1 ⟨rfl, hq1, hg1⟩; have HB1 := hide (HG.out w1 hg1); have HP1 := hide (HL.out w1 hg1); obtain ⟨c0, c1, c2, c3, c4, c5, c6, c7, c8, c9, c10, c11⟩ := (hq1.2 _ _ HX.out).all; simp only at c0 c1 c2 c3 c4 c5 c6 c7 c8 c9 c10 c11; clear hg1 hq1) | (go_at_call 32; refine (HCh.out _).mono ?_; rintro e wz ⟨rfl, hz⟩; subst wz) | (go_at_call 33; refine (HK.out _).mono ?_; rintro e wz ⟨rfl, hz⟩; subst wz) | (go_at_call 35; refine (HZ.out _).mono ?_; rintro e w2 ⟨rfl, hb2⟩; have HB2 := hide hb2; have hpl := ((secAt_new w1 (.slice q1 q2 q3) ps).below hb2).plc; simp only [Nat.zero_add] at hpl; obtain ⟨g7, g8, g9, g10, g11⟩ := hpl; clear hb2) | (go_at_call 30; refine (HC.out w1 _ HB1.out HP1.out HB2.out).mono ?_; rintro e w3 ⟨rfl, hb3⟩))
    go_ret2
    exact ⟨by rw [show (⟨#[]⟩ : ByteArray) ++ (⟨S.toArray⟩ : ByteArray) = ⟨S.toArray⟩ from app_str [] S]; rfl, ((HB1.out.alloc (by have := HB1.out.size; omega) _).trans (HB2.out.mono (by have := HB1.out.size; simp; omega))).trans (hb3.mono (by have h1 := HB1.out.size; have h2 := HB2.out.size; simp at h2; omega))⟩
set_option maxHeartbeats 4000000 in
theorem ofNumber_minus (B0 g cap : Nat) (G : List (Value × List Pc)) (n : Int) (u : Value) (ps : List Pc) (m : Nat) (w : World) (hs : SsAt w g cap G) (hB : B0 ≤ g) (hle : 1 ≤ (leftG G).length) (hx : (leftG G)[chosenR (leftG G).length n]? = some (u, ps)) (hk : kindS ps ≠ 3) (hf : fitsB n = true)
    (hz : sizedR ps (max n (-n)) = ((m : Int), 0)) (hm : m ≤ 9223372036854775807) (ht : ∀ W, Below B0 w W → TabOk W) (hsg : (leftG G).length = 1 ∧ n < 0) :
    Calls Tryz.prog 10 #[.slice (some ⟨g, 0, none⟩) G.length cap, .int .i64 n] w fun e w' => e = .returned (.tuple #[.string ⟨(45 :: secT (plcOf ps) m 0 0 0 [] ps).toArray⟩, .int .i64 0]) ∧ Below B0 w w' := by
  have HD := hide hs.del
  have hgl : g < w.heap.size := hs.secs.1
  have HG : Hid (∀ W, w.grownBy W (some g) → Below B0 w W) := fun W hg => (Below.refl B0 w).grown hg (by omega) (fun k e => by cases e; exact hB)
  have HL : Hid (∀ W, w.grownBy W (some g) → PcsAt W u ps) := fun W hg => ((left_at hs hg).2 _ (List.mem_of_getElem? hx)).1
  have hl3 : (leftG G).length ≤ 3 := Nat.le_trans (List.length_filter_le _ _) hs.three
  have hlt := chosen_lt (n := n) hle
  obtain ⟨q1, q2, q3, rfl⟩ : ∃ q1 q2 q3, u = .slice q1 q2 q3 := by
    obtain ⟨p, c, e, _⟩ := HL.out w (grown_refl w g)
    exact ⟨_, _, _, e⟩
  obtain ⟨n1, n2⟩ := fitsB_true hf
  have hsa : Sane ps := ((left_at hs (grown_refl w g)).2 _ (List.mem_of_getElem? hx)).2
  have HZ : Hid (∀ W : World, Calls Tryz.prog 35 #[.pointer (some ⟨W.heap.size, 0, none⟩), .int .i64 (max n (-n))] (W.alloc (.cells (secC (.slice q1 q2 q3) ps).toArray 66)) fun e w' => e = .returned (.tuple #[.int .i64 m, .int .i64 0]) ∧ Below (W.alloc (.cells (secC (.slice q1 q2 q3) ps).toArray 66)).heap.size (W.alloc (.cells (secC (.slice q1 q2 q3) ps).toArray 66)) w') := fun W => by
    have := sized_any W.heap.size 0 (.slice q1 q2 q3) ps (max n (-n)) _ (secAt_new W (.slice q1 q2 q3) ps) (Nat.le_trans (cnt_le ps 2) (by have := hsa.len; omega)) (by have := hsa.plc; omega) (by have := hsa.plc; omega)
    rw [hz] at this
    exact this
  have HCh : Hid (∀ W : World, Calls Tryz.prog 32 #[.int .i64 (leftG G).length, .int .i64 n] W fun e w' => e = .returned (.int .i64 (chosenR (leftG G).length n)) ∧ w' = W) := fun W => chosen_any _ n W
  have HX := hide hx
  have HC : Hid (∀ W0 W : World, Below B0 w W0 → PcsAt W0 (.slice q1 q2 q3) ps → Below (W0.alloc (.cells (secC (.slice q1 q2 q3) ps).toArray 66)).heap.size (W0.alloc (.cells (secC (.slice q1 q2 q3) ps).toArray 66)) W → Calls Tryz.prog 30 #[.pointer (some ⟨W0.heap.size, 0, none⟩), .agg (wrC (plcOf ps) m 0 0 0 []).toArray] W fun e w' => e = .returned (.string ⟨(secT (plcOf ps) m 0 0 0 [] ps).toArray⟩) ∧ Below W.heap.size W w') := fun W0 W h0 hp hW =>
    have hb0 : Below W0.heap.size W0 (W0.alloc (.cells (secC (.slice q1 q2 q3) ps).toArray 66)) := (Below.refl _ _).alloc (Nat.le_refl _) _
    have h0s : B0 ≤ W0.heap.size := by have := h0.size; omega
    write_any W0.heap.size 0 (.slice q1 q2 q3) ps (plcOf ps) m 0 0 0 [] W ((secAt_new W0 (.slice q1 q2 q3) ps).below hW) ((hp.below hb0).below hW) (ht W (h0.trans ((up hb0 hW).mono h0s))) hm (by have := hsa.plc; omega) (by have := hsa.plc; omega) (by omega) (by omega) (by omega) (fun q hq => by have := hsa.texts q hq; omega) (piece_len hsa ⟨hsa.plc.1, hsa.plc.2.1⟩ hm (by omega) (by omega) (by omega) (by simp)) (by have := hsa.len; omega)
  have hl0 : (((leftG G).length : Int) == 0) = false := by rw [beq_eq_false_iff_ne]; omega
  have hcapi : (cap : Int) ≤ 9223372036854775807 := by have := hs.mx; unfold maxLen at this; omega
  have hlc : ((leftG G).length : Int) ≤ (cap : Int) := by have h1 : (leftG G).length ≤ G.length := List.length_filter_le _ _; have := hs.le; omega
  have hlti : ((chosenR (leftG G).length n : Nat) : Int) < ((leftG G).length : Int) := by omega
  have hl3i : ((leftG G).length : Int) ≤ 3 := by omega
  generalize hL : leftG G = L at *
  generalize hc : chosenR L.length n = c at *
  clear hs hx hL hc hz hf ht
  have HK : Hid (∀ W : World, Calls Tryz.prog 33 #[.pointer (some ⟨W.heap.size, 0, none⟩)] (W.alloc (.cells (secC (.slice q1 q2 q3) ps).toArray 66)) fun e w' => e = .returned (.int .i64 (kindS ps)) ∧ w' = W.alloc (.cells (secC (.slice q1 q2 q3) ps).toArray 66)) := fun W => by
    have := kind_any W.heap.size 0 (.slice q1 q2 q3) ps _ (secAt_new W (.slice q1 q2 q3) ps)
    exact this
  have hSl := secTs_len hsa (p := plcOf ps) ⟨hsa.plc.1, hsa.plc.2.1⟩ hm (y := 0) (m := 0) (d := 0) (x := []) (by omega) (by omega) (by omega) (by simp)
  clear hsa hm
  simp only [wrC] at HC
  simp only [secC, cn] at HK HZ HC
  generalize secT (plcOf ps) m 0 0 0 [] ps = S at *
  have hS1 : ¬ 9223372036854775807 < S.length := by omega
  have hS2 : ¬ 9223372036854775807 < S.length + 1 := by omega
  have hS3 : ¬ 9223372036854775807 < 1 + S.length := by omega
  have hk3 : ((kindS ps : Int) == 3) = false := by rw [beq_eq_false_iff_ne]; omega
  generalize kindS ps = K at *
  clear hk
  have e1 : ((L.length : Int) == 1) = true := by rw [beq_iff_eq]; omega
  have e2 := hsg.2
  clear hsg
  go_enter Tryz.func10, Tryz.ntmps10
  go_wp2_with (first | (go_at_call 31; refine HD.out.mono ?_; rintro e w1 ⟨rfl, hq1, hg1⟩; have HB1 := hide (HG.out w1 hg1); have HP1 := hide (HL.out w1 hg1); obtain ⟨c0, c1, c2, c3, c4, c5, c6, c7, c8, c9, c10, c11⟩ := (hq1.2 _ _ HX.out).all; simp only at c0 c1 c2 c3 c4 c5 c6 c7 c8 c9 c10 c11; clear hg1 hq1) | (go_at_call 32; refine (HCh.out _).mono ?_; rintro e wz ⟨rfl, hz⟩; subst wz) | (go_at_call 33; refine (HK.out _).mono ?_; rintro e wz ⟨rfl, hz⟩; subst wz) | (go_at_call 35; refine (HZ.out _).mono ?_; rintro e w2 ⟨rfl, hb2⟩; have HB2 := hide hb2; have hpl := ((secAt_new w1 (.slice q1 q2 q3) ps).below hb2).plc; simp only [Nat.zero_add] at hpl; obtain ⟨g7, g8, g9, g10, g11⟩ := hpl; clear hb2) | (go_at_call 30; refine (HC.out w1 _ HB1.out HP1.out HB2.out).mono ?_; rintro e w3 ⟨rfl, hb3⟩))
  go_ret2
  exact ⟨by rw [show (⟨#[45]⟩ : ByteArray) ++ (⟨S.toArray⟩ : ByteArray) = ⟨(45 :: S).toArray⟩ from app_str [45] S]; rfl, ((HB1.out.alloc (by have := HB1.out.size; omega) _).trans (HB2.out.mono (by have := HB1.out.size; simp; omega))).trans (hb3.mono (by have h1 := HB1.out.size; have h2 := HB2.out.size; simp at h2; omega))⟩
end Go.Proofs.YtnhaapcpklfkpaaGreatDoor
