/-
  The contract of the iterator over a format's pieces.
-/
import Derived.Test.YtnhaapcpklfkpaaGreatDoorCd2b
import Derived.Test.YtnhaapcpklfkpaaGreatDoorCdR
import Derived.Test.YtnhaapcpklfkpaaGreatDoorCd4b
namespace Go.Proofs.YtnhaapcpklfkpaaGreatDoor
open Go.RowKit Go.Shelf

attribute [local go_sem] Oper.semAt_some

theorem pieces_any (s : ByteArray) (w : World) :
    Calls Tryz.prog 45 #[.string s] w fun e w' => e = .returned (.func (.func 74) #[] #[.pointer (some ⟨w.heap.size, 0, none⟩)]) ∧ w' = w.alloc (.cells #[.string s] 9) := by
  have hmf : ∀ (fn : Fn) (first cap : Array Value) (w : World), (Instr.makeFunc fn first cap).run Tryz.prog w = .ok (.func fn first cap) w := fun _ _ _ _ => rfl
  go_enter Tryz.func45, Tryz.ntmps45
  go_wp2
  go_ret
  exact ⟨rfl, rfl⟩
def GoodP (l : List UInt8) (pre : List Pc) (x : Pc) : Prop := ∃ r k, Rd l pre r ∧ firstR r = some (x, k)
def DeadP (l : List UInt8) (pre : List Pc) : Prop := ∃ r, Rd l pre r ∧ r ≠ [] ∧ firstR r = none
set_option maxRecDepth 100000 in
set_option maxHeartbeats 4000000 in
theorem pieces_seq (b : Nat) (l : List UInt8) (hl : l.length ≤ 1000) :
    SeqP Tryz.prog 74 #[.pointer (some ⟨b, 0, none⟩)] (fun x : Pc => #[pcV x]) (GoodP l) (fun xs => Rd l xs []) (DeadP l) RF (fun W => W.cell? ⟨b, 0, none⟩ = some (.string ⟨l.toArray⟩)) CellOk := by
  intro lp J Jp W hIt hJE hJ hY hD h0
  have HJE := hide hJE
  have HJ := hide hJ
  have HY := hide hY
  have HD := hide hD
  clear hJE hJ hY hD
  refine callsIn_of_wp Tryz.func74 rfl trivial ?_ rfl
  simp only [Tryz.ntmps74, List.size_toArray, List.length_cons, List.length_nil, Nat.reduceAdd, Nat.reduceSub, Array.replicate_succ, Array.replicate_zero, List.push_toArray, List.append_toArray, List.nil_append, List.cons_append]
  gi_wp2
  gi_loopw [3] (fun rs wr => ∃ (pre : List Pc) (r : List UInt8), rs = .string ⟨r.toArray⟩ ∧ Rd l pre r ∧ J pre wr) (fun rs _ => Lib.strSize rs)
  case atStart => exact ⟨[], l, rfl, Rd.none, h0⟩
  case round =>
    obtain ⟨pre, r, rfl, hrd, hjr⟩ := hrel
    have HRD := hide hrd
    have HJR := hide hjr
    have hrl : r.length ≤ 1000 := by have := rd_len hrd; omega
    clear hrd hjr hIt h0
    cases r with
    | nil =>
      gi_wp2
      go_end0
      exact .inl ⟨⟨_, rfl⟩, pre, HRD.out, HJR.out⟩
    | cons c r =>
      have hs : r.length ≤ 1000 := by simp at hrl; omega
      have HF := hide (first_any c r wr hs (HJE.out pre wr HJR.out))
      have sz : (⟨(c :: r).toArray⟩ : ByteArray).size = r.length + 1 := mk_size (c :: r)
      have hne : (⟨(c :: r).toArray⟩ : ByteArray).toList.isEmpty = false := by rw [Lib.toList_data]; rfl
      cases hf : firstR (c :: r) with
      | none =>
        rw [hf] at HF
        simp only [toldP] at HF
        have HDD : Hid (DeadP l pre) := ⟨_, HRD.out, by simp, hf⟩
        clear hf
        gi_wp2_with (refine ⟨trivial, rfl, ?_⟩; gi_at_call 75; refine (callsIn_wide.2 HF.out).mono ?_; rintro e w1 ⟨rfl, hb1⟩)
        exact ⟨rfl, .inr ⟨rfl, HD.out pre w1 HDD.out (HJ.out pre wr w1 HJR.out hb1)⟩⟩
      | some x =>
        obtain ⟨p, k⟩ := x
        rw [hf] at HF
        simp only [toldP] at HF
        obtain ⟨hk1, hk2, hk3⟩ := first_len hf
        have HG : Hid (GoodP l pre p) := ⟨_, _, HRD.out, hf⟩
        have HRD2 := hide (HRD.out.more hf)
        have x1 : (⟨(c :: r).toArray⟩ : ByteArray).extract k (r.length + 1) = ⟨((c :: r).drop k).toArray⟩ := mk_drop (c :: r) k
        have szd := mk_size ((c :: r).drop k)
        have hdl : ((c :: r).drop k).length < (c :: r).length := by rw [List.length_drop]; simp at hk2 ⊢; omega
        have hk4 : k ≤ r.length + 1 := by simpa using hk2
        have hk5 : (k : Int) ≤ (r.length : Int) + 1 := by omega
        have HM : Hid (((c :: r).drop k).length < r.length + 1) := by show _ < _; simpa using hdl
        clear hf hk1 hk2 hk3 hrl hs hdl
        obtain ⟨pk, pt⟩ := p
        simp only [pcV] at HF
        generalize (c :: r).drop k = D at *
        generalize (⟨(c :: r).toArray⟩ : ByteArray) = S at *
        gi_wp2_with (refine ⟨trivial, rfl, ?_⟩; gi_at_call 75; refine (callsIn_wide.2 HF.out).mono ?_; rintro e w1 ⟨rfl, hb1⟩; have HB1 := hide hb1; clear hb1; have hj2 := HJ.out pre wr (w1.alloc (.cells #[.int .i64 pk, .string ⟨pt.toArray⟩] 93)) HJR.out (up HB1.out ((Below.refl _ w1).alloc (Nat.le_refl _) _)); obtain ⟨fn, tmps, assign, body, hy, hR⟩ := HY.out pre ⟨pk, pt⟩ _ HG.out hj2; have HR := hide hR; clear hR hj2; simp only [pcV] at hy)
        refine ⟨rfl, HR.out.mono ?_⟩
        rintro e W3 (⟨rfl, hJ3⟩ | ⟨rfl, hJp⟩)
        · have HJ3 := hide hJ3
          clear hJ3
          gi_wp2
          go_roundw
          case rel => exact ⟨pre ++ [⟨pk, pt⟩], D, rfl, HRD2.out, HJ3.out⟩
          case measure => simp only [Lib.strSize_string, szd, sz]; exact HM.out
        · exact ⟨rfl, .inr ⟨rfl, hJp⟩⟩
end Go.Proofs.YtnhaapcpklfkpaaGreatDoor
