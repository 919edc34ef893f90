/-
  The contracts of lex's tokens, and of the function that it makes: what it hands on.
-/
import Derived.Test.YtiaoaifoecmemaaGreatDoorRLxH
set_option maxRecDepth 100000
set_option maxHeartbeats 4000000
namespace Go.Proofs.YtiaoaifoecmemaaGreatDoor
open Go.RowKit Go.Shelf
attribute [local go_sem] Oper.semAt_some
def encT (x : Tok × Int) : Array Value := #[tokV x.1, .int .i64 x.2]
theorem tokens_any (s : ByteArray) (w : World) :
  Calls Tryz.prog 66 #[.string s] w fun e w' => e = .returned (.func (.func 96) #[] #[.pointer (some ⟨w.heap.size, 0, none⟩)]) ∧ w' = w.alloc (.cells #[.string s] 9) := by
 go_enter Tryz.func66, Tryz.ntmps66
 go_wp2
 go_ret
 exact ⟨rfl, rfl⟩
theorem tokens1_in (n : Nat) (hn : 1 ≤ n) (l B Bs n₁ : Nat) (s : ByteArray) (hs : s.size ≤ 1024) (w₀ : World) (he : EnvL w₀) (hB : B < n₁) (hBs : Bs < n₁) (hne : Bs ≠ B) (J Jx : List (Tok × Int) → World → Prop) (W : World)
    (hI : ItL w₀ n₁ B Bs s W) (hJ : AbidesFrom W.heap.size J)
    (hY : ∀ pre x W1, J pre W1 → pre.length < (allG s.data.toList).length → YieldAt Fence.wide (n - 1) Tryz.prog l (encT x) W1 fun e W' =>
      (e = .returned (.bool true) ∧ J (pre ++ [x]) W' ∧ KpL w₀.heap.size B W1 W') ∨ (e = .returned (.bool false) ∧ Jx (pre ++ [x]) W'))
    (h0 : J [] W) :
    CallsIn Fence.wide n Tryz.prog 96 #[.func (.yield l) #[] #[], .pointer (some ⟨Bs, 0, none⟩)] W fun e W' => (∃ v, e = .returned v) ∧
      ((∃ ys, ys = allG s.data.toList ∧ J ys W') ∨ (∃ pre, pre <+: allG s.data.toList ∧ Jx pre W')) := by
  have hlen : s.data.toList.length = s.size := by simp
  have HL := hide hlen
  clear hlen
  refine callsIn_of_wp Tryz.func96 rfl trivial ?_ rfl
  simp only [Tryz.ntmps96, List.size_toArray, List.length_cons, List.length_nil, Nat.reduceAdd, Nat.reduceSub, Array.replicate_succ, Array.replicate_zero, List.push_toArray, List.append_toArray, List.nil_append, List.cons_append]
  gi_wp2
  gi_loopw [3] (fun p wr => ∃ (k f : Nat) (pre : List (Tok × Int)), k ≤ s.size ∧ s.size - k < f ∧ p = .int .i64 k ∧ allG s.data.toList = pre ++ runG f k (s.data.toList.drop k) ∧ J pre wr ∧ ItL w₀ n₁ B Bs s wr) (fun p _ => s.size - (intOf p).toNat)
  case atStart => exact ⟨0, s.size + 1, [], Nat.zero_le _, by omega, rfl, by unfold allG; rw [HL.out]; rfl, h0, hI⟩
  case round =>
    obtain ⟨k, f, pre, hk, hf, rfl, hx, hJr, hIr⟩ := hrel
    have hbl := run_le blankB (s.data.toList.drop k)
    rw [List.length_drop, HL.out] at hbl
    have HR : Hid (∀ X : World, CallsIn Fence.wide (n - 1) Tryz.prog 97 #[.string (s.extract k s.size), .func (.func 98) #[] #[]] X fun e w' => e = .returned (.int .i64 (runN blankB (s.data.toList.drop k) : Int)) ∧ w' = X) := fun X => callsIn_wide.2 (by
      have := row_blank (s.extract k s.size) X (by have := ext_size s k s.size; unfold maxLen; omega)
      rw [str_drop'] at this
      exact this)
    obtain ⟨b, hb⟩ : ∃ b, runN blankB (s.data.toList.drop k) = b := ⟨_, rfl⟩
    rw [hb] at HR hbl
    have HF : Hid (∀ X : World, EnvL X → CallsIn Fence.wide (n - 1) Tryz.prog 99 #[.string (s.extract (k + b) s.size)] X fun e w' => e = .returned (.tuple #[tokV (firstT (s.data.toList.drop (k + b))).1, .int .i64 ((firstT (s.data.toList.drop (k + b))).2.1 : Int), .int .i64 (firstT (s.data.toList.drop (k + b))).2.2]) ∧ Below X.heap.size X w') := fun X hX => callsIn_wide.2 (by
      have := first_any (s.extract (k + b) s.size) X hX (by have := ext_size s (k + b) s.size; omega)
      rw [str_drop'] at this
      exact this)
    obtain ⟨q, hq⟩ : ∃ q, firstT (s.data.toList.drop (k + b)) = q := ⟨_, rfl⟩
    have hgood := good_first (s.data.toList.drop (k + b))
    obtain ⟨f', rfl⟩ : ∃ f', f = f' + 1 := ⟨f - 1, by omega⟩
    rw [run_step f' k (s.data.toList.drop k) b hb q (by rw [List.drop_drop, ← hq]), List.drop_drop, List.drop_drop] at hx
    rw [hq] at HF hgood
    unfold Good at hgood
    rw [List.length_drop, HL.out] at hgood
    have HX := hide hx
    have HG := hide hgood
    have HI := hide hIr
    have HJ := hide hJr
    have HE := hide (he.below hIr.base)
    have hbox := hIr.box.cell
    have z_s : Bs < wr.heap.size := hIr.box.lt
    have g1 : (k : Int) + (b : Int) ≤ s.size := by omega
    have HY := hide hY
    clear hx hgood hIr hJr hb hq hY hI h0
    obtain ⟨⟨t0, t1, t2, t3, t4, t5, t6, t7, t8, t9, t10, t11⟩, tm, te⟩ := q
    obtain ⟨T3, hT3⟩ : ∃ T : ByteArray, (⟨t3.toArray⟩ : ByteArray) = T := ⟨_, rfl⟩
    obtain ⟨T10, hT10⟩ : ∃ T : ByteArray, (⟨t10.toArray⟩ : ByteArray) = T := ⟨_, rfl⟩
    have HF' : Hid (∀ X : World, EnvL X → CallsIn Fence.wide (n - 1) Tryz.prog 99 #[.string (s.extract (k + b) s.size)] X fun e w' => e = .returned (.tuple #[.agg #[.int .i64 t0, .int .i64 t1, .int .i64 t2, .string T3, .bool t4, .int .i64 t5, .int .i64 t6, .int .i64 t7, .bool t8, .bool t9, .string T10, .int .i64 t11], .int .i64 (tm : Int), .int .i64 te]) ∧ Below X.heap.size X w') := by
      rw [← hT3, ← hT10]
      exact HF.out
    have HT3 := hide hT3
    have HT10 := hide hT10
    clear HF hT3 hT10
    gi_wp2_with (first | (refine ⟨trivial, ?_⟩; gi_at_call 97; refine (HR.out _).mono ?_; rintro e wz ⟨rfl, hz⟩; subst wz) | (refine ⟨trivial, ?_⟩; gi_at_call 99; refine (HF'.out _ HE.out).mono ?_; rintro e w1 ⟨rfl, hb1⟩; obtain ⟨c1, f1⟩ := bcell hb1))
    obtain ⟨X, hX⟩ : ∃ X : Tok × Int, X = (Tok.put ⟨t0, t1, t2, t3, t4, t5, t6, t7, t8, t9, t10, t11⟩ ((k + b : Nat) : Int), te) := ⟨_, rfl⟩
    have henc : encT X = #[.agg #[.int .i64 t0, .int .i64 t1, .int .i64 t2, .string T3, .bool t4, .int .i64 t5, .int .i64 t6, .int .i64 t7, .bool t8, .bool t9, .string T10, .int .i64 ((k : Int) + (b : Int))], .int .i64 te] := by
      rw [hX, ← HT3.out, ← HT10.out]
      unfold encT tokV tokC Tok.put
      simp
    have hIy : ItL w₀ n₁ B Bs s (w1.alloc (.cells #[.int .i64 t0, .int .i64 t1, .int .i64 t2, .string T3, .bool t4, .int .i64 t5, .int .i64 t6, .int .i64 t7, .bool t8, .bool t9, .string T10, .int .i64 ((k : Int) + (b : Int))] 66)) := HI.out.below hB (hb1.alloc hb1.size _)
    have hlt : pre.length < (allG s.data.toList).length := by rw [HX.out]; simp
    obtain ⟨fn, tmps, assign, body, hy, hR⟩ := HY.out pre X (w1.alloc (.cells #[.int .i64 t0, .int .i64 t1, .int .i64 t2, .string T3, .bool t4, .int .i64 t5, .int .i64 t6, .int .i64 t7, .bool t8, .bool t9, .string T10, .int .i64 ((k : Int) + (b : Int))] 66)) (abides_below hJ HJ.out (hb1.alloc hb1.size _)) hlt
    rw [henc] at hy
    have HR2 := hide hR
    have HXX := hide hX
    have HIy := hide hIy
    clear hX henc hIy hlt HY HR HF' hR
    have hnr : rowOf (w1.alloc (.cells #[.int .i64 t0, .int .i64 t1, .int .i64 t2, .string T3, .bool t4, .int .i64 t5, .int .i64 t6, .int .i64 t7, .bool t8, .bool t9, .string T10, .int .i64 ((k : Int) + (b : Int))] 66)) B ≠ some w1.heap.size := fun e => by
      have h1 := hb1.size
      have h2 := HI.out.size
      rw [rowOf_block (Below.heap_alloc _ _ B (by omega)), rowOf_block (hb1.block B (by omega))] at e
      have := (HI.out.row _ e).2
      omega
    have hnb : w1.heap.size ≠ B := by
      have h1 := hb1.size
      have h2 := HI.out.size
      omega
    rw [hy]
    gi_wp2
    refine HR2.out.mono ?_
    rintro e W3 (⟨rfl, hJ3, hk3⟩ | ⟨rfl, hJx3⟩)
    · have hc3 : W3.cell? ⟨w1.heap.size, 0, none⟩ = some (.int .i64 t0) := by
        have := hk3.keep w1.heap.size _ (World.alloc_heap_new w1 _) rfl hnb hnr
        simp [World.cell?, this]
      have HJ3 := hide hJ3
      have HI3 := hide (HIy.out.kept hBs hne hk3)
      clear hk3 hJ3 hnr hnb hy c1 f1
      by_cases h0 : t0 = 0
      · subst h0
        have HF : Hid (allG s.data.toList = pre ++ [X]) := by
          show _ = _
          rw [HX.out, HXX.out, if_pos rfl]
        gi_wp2
        refine bodyPost_ret (results_none rfl _ _ _) rfl ?_
        exact ⟨⟨_, rfl⟩, .inl ⟨pre ++ [X], HF.out.symm, HJ3.out⟩⟩
      · have e0 : (t0 == 0) = false := by simpa using h0
        have hg := HG.out
        rcases hg with ⟨hg, _⟩ | ⟨_, hg1, hg2, hg3, _⟩
        · exact absurd hg h0
        have g3 : (k : Int) + (b : Int) + (tm : Int) ≤ s.size := by omega
        have HF : Hid (allG s.data.toList = (pre ++ [X]) ++ runG f' (k + b + tm) (s.data.toList.drop (k + b + tm))) := by
          show _ = _
          rw [HX.out, HXX.out, if_neg h0, Nat.add_assoc k b tm]
          simp
        clear h0 hg1
        gi_wp2
        go_roundw
        case rel => exact ⟨k + b + tm, f', pre ++ [X], by omega, by omega, by go_num, HF.out, HJ3.out, HI3.out⟩
        case measure => simp [intOf]; omega
    · have HF : Hid (pre ++ [X] <+: allG s.data.toList) := by
        show _ <+: _
        rw [HX.out, HXX.out]
        exact ⟨_, by rw [List.append_assoc]; rfl⟩
      gi_wp2
      refine bodyPost_ret (results_none rfl _ _ _) rfl ?_
      exact ⟨⟨_, rfl⟩, .inr ⟨pre ++ [X], HF.out, hJx3⟩⟩
theorem tokens_stops (n : Nat) (hn : 1 ≤ n) (B Bs : Nat) (s : ByteArray) (hs : s.size ≤ 1024) (w₀ w : World) (he : EnvL w₀) (hB : B < w.heap.size) (hBs : Bs < w.heap.size) (hne : Bs ≠ B) (hI : ItL w₀ w.heap.size B Bs s w) :
  SeqStopsK Fence.wide n Tryz.prog 96 #[.pointer (some ⟨Bs, 0, none⟩)] encT (KpL w₀.heap.size B) (fun ys => ys = allG s.data.toList) (fun pre => pre <+: allG s.data.toList) (allG s.data.toList).length w := fun l J Jx W hW hJ _ hY h0 =>
 tokens1_in n hn l B Bs w.heap.size s hs w₀ he hB hBs hne J Jx W (hI.below hB hW) hJ hY h0
end Go.Proofs.YtiaoaifoecmemaaGreatDoor
