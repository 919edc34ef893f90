/-
  The contract of the answer's limbs: a number's digits of a million each, four of them, in memory of its own.
-/
import Derived.Test.YtjhldifilfkebaaDoorRefDiv
namespace Go.Proofs.YtjhldifilfkebaaDoor
open Go.RowKit

/-- What is left behind k digits. -/
def nk (n : Int) : Nat → Int
  | 0 => n
  | k + 1 => nk n k / 1000000
theorem nk_succ (n : Int) (k : Nat) : nk n (k + 1) = nk n k / 1000000 := rfl
theorem nk_bd {n : Int} (h0 : 0 ≤ n) (h1 : n ≤ 1000000000000000000) : ∀ k, 0 ≤ nk n k ∧ nk n k ≤ 1000000000000000000
  | 0 => ⟨h0, h1⟩
  | k + 1 => by have := nk_bd h0 h1 k; rw [nk_succ]; omega
/-- The first k digits. -/
def lim (n : Int) (k : Nat) : List Int := (List.range k).map fun j => nk n j % 1000000
theorem lim_succ (n : Int) (k : Nat) : lim n (k + 1) = lim n k ++ [nk n k % 1000000] := by
  unfold lim; rw [List.range_succ, List.map_append]; rfl
theorem lim_len (n : Int) (k : Nat) : (lim n k).length = k := by simp [lim]

theorem infoInt : (Tryd.prog.info? 3).map (fun i => (i.zero, i.size, i.bytes)) = some (some (.int .i64 0), 1, 8) := by kernel_rfl

theorem lim_step {w wr w1 : World} {n : Int} {k : Nat} {v v' : Value} (o : Obj)
    (hnx : Below w.heap.size w wr) (hown : wr.ownsRow w.heap.size 3 1 v k ((lim n k).map (Value.int .i64)))
    (hown' : w1.ownsRow w.heap.size 3 1 v' (k + 1) ((lim n k).map (Value.int .i64) ++ [.int .i64 (nk n k % 1000000)])) (hgrow : (wr.alloc o).grownBy w1 v.ownBlock) :
    w1.ownsRow w.heap.size 3 1 v' (k + 1) ((lim n (k + 1)).map (Value.int .i64)) ∧ Below w.heap.size w w1 := by
  refine ⟨by rw [lim_succ, List.map_append]; exact hown', ?_⟩
  refine (hnx.alloc hnx.size o).grown hgrow ?_ (fun j hj => (hown.lt j hj).1)
  have := hnx.size; simp; omega

set_option maxHeartbeats 1000000 in
set_option maxRecDepth 100000 in
theorem limbs_any (n : Int) (w : World) (h0 : 0 ≤ n) (h1 : n ≤ 1000000000000000000) :
    Calls Tryd.prog 36 #[.int .i64 n] w fun e w' => ∃ v, e = .returned v ∧ w'.ownsRow w.heap.size 3 1 v 4 ((lim n 4).map (Value.int .i64)) ∧ Below w.heap.size w w' := by
  obtain ⟨i0, hi, hz0, hz1, hz2⟩ := info_parts infoInt
  have H0 := hide h0
  have H1 := hide h1
  clear h0 h1
  go_enter Tryd.func36, Tryd.ntmps36
  go_wp2
  go_loopw [0, 3, 4] (fun m v i wr => ∃ k : Nat, k ≤ 4 ∧ i = .int .i64 k ∧ m = .int .i64 (nk n k) ∧ wr.ownsRow w.heap.size 3 1 v k ((lim n k).map (Value.int .i64)) ∧ Below w.heap.size w wr) (fun _ _ i _ => 4 - (intOf i).toNat)
  case atStart => exact ⟨0, by omega, rfl, rfl, World.ownsRow_nil _ _ _ _, Below.refl _ _⟩
  case round =>
    obtain ⟨k, hk, rfl, rfl, hown, hnx⟩ := hrel
    obtain ⟨n0, n1⟩ := nk_bd H0.out H1.out k
    by_cases hlt : k < 4
    · have HN := hide (nk_succ n k)
      generalize hm : nk n k = m at *
      have HM := hide hm
      clear hm
      have hbs := hnx.size
      go_wp2_with (first
        | (at_builtin; refine wpList_append_own _ rfl _ _ 48 rfl w.heap.size 3 i0 (.int .i64 0) 1 8 Tryd.underlying48 hi hz0 hz1 hz2 rfl (by decide) _ _ _ rfl (hown.alloc _) ⟨wr.heap.size, 0, none⟩ 1 1 [.int .i64 (m % 1000000)] rfl rfl ?c1 ?c2 ?c3 ?c4 ?c5 ?_)
        | go_in)
      case c1 =>
        intro j u hj
        match j, hj with
        | 0, hj => simp at hj; subst hj; simp [Addr.add]
      case c2 => intro u hu; simp at hu; subst hu; rfl
      case c3 => unfold maxLen; omega
      case c4 => omega
      case c5 => simp; omega
      intro v' w1 hown' hgrow _
      rw [← HM.out] at hown'
      have R := lim_step _ hnx hown hown' hgrow
      clear hown' hgrow hown hnx
      go_wp2
      go_roundw
      case rel => exact ⟨k + 1, by omega, by go_num, by rw [HN.out], R.1, R.2⟩
      case measure => simp [intOf]; omega
    · have : k = 4 := by omega
      subst this
      go_wp2
      go_ret
      exact ⟨_, rfl, hown, hnx⟩
end Go.Proofs.YtjhldifilfkebaaDoor
