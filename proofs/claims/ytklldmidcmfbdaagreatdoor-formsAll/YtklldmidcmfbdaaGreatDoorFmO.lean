/-
  The contract of the statements' of: the node of a text that is a formula.
-/
import Derived.Test.YtklldmidcmfbdaaGreatDoorFmQ
import Derived.Test.YtklldmidcmfbdaaGreatDoorZ9
namespace Go.Proofs.YtklldmidcmfbdaaGreatDoor
open Go.RowKit Go.Shelf

/-- A node into a block that has just been made. -/
theorem wpl_newN {ops : Array Oper} {rest : List Oper} {o : Oper} {a : Act} {W w : World} {Q : Exit → Act → World → Prop} (hgd : o.guard = none) (x y : Operand) (ho : o.op = .store 68 x y)
    (hW : W = w.alloc (.cells (hdC zh (.slice none 0 0)).toArray 68)) (hx : a.eval x = .pointer (some ⟨w.heap.size, 0, none⟩)) {h : Hd} {pp : Option Addr} {n cap : Nat} (hy : a.eval y = .agg (hdC h (.slice pp n cap)).toArray)
    (hk : wpList Tryz.prog ops Q rest (a.put o.dst undef) (w.alloc (.cells (hdC h (.slice pp n cap)).toArray 68))) : wpList Tryz.prog ops Q (o :: rest) a W := by
  subst hW
  refine wpl_store hgd x y ho w.heap.size hx hy (Box.new w _) rfl ?_
  rw [World.setRow_alloc_new]
  exact hk
set_option maxRecDepth 100000 in
set_option maxHeartbeats 4000000 in
theorem of_any (s : ByteArray) (w : World) (hs : s.size ≤ maxLen) (h : Hd) (k : Fo) (hp : parseN s.data.toList = .ok h k) :
    Calls Tryz.prog 19 #[.string s] w fun e w' => ∃ a n cap, e = .returned (.agg (hdC h (.slice a n cap)).toArray) ∧ Kv w' (New w w') (.slice a n cap) k ∧ Below w.heap.size w w' := by
  have HP : Hid (∀ W : World, Calls Tryz.prog 34 #[.string s] W fun e w' => ∃ a n cap, e = .returned (.tuple #[.agg (hdC h (.slice a n cap)).toArray, .int .i64 0, .int .i64 0]) ∧ Kv w' (New W w') (.slice a n cap) k ∧ Below W.heap.size W w') := fun W => rparsed_ok s W hs h k hp
  have HZ := hide (Box.new w (hdC zh (.slice none 0 0)))
  clear hp hs
  go_enter Tryz.func19, Tryz.ntmps19
  go_wp2_with (first | (go_at_call 34; refine (HP.out _).mono ?_; rintro e w1 ⟨a, n, cap, rfl, hk1, hb1⟩; have HZ1 := hide (HZ.out.below hb1); have HX1 := hide ((HZ.out.below hb1).alloc (.cells (hdC h (.slice a n cap)).toArray 68)); have HK1 := hide hk1; have HB1 := hide hb1; clear hk1 hb1 HZ) | (with_reducible refine wpl_id ?_; refine wpl_newN rfl _ _ rfl rfl rfl rfl ?_) | (with_reducible refine wpl_id ?_; refine wpl_load rfl _ rfl _ rfl (by ((repeat' (first | with_reducible exact Hid.out (by assumption) | with_reducible apply Box.set | with_reducible exact Box.new _ _ | with_reducible apply Box.other | with_reducible apply Box.alloc | with_reducible apply Box.drew | with_reducible apply Box.drewN | omega)); done)) ?_) | (with_reducible refine wpl_id ?_; refine wpl_store rfl _ _ rfl _ rfl rfl (by ((repeat' (first | with_reducible exact Hid.out (by assumption) | with_reducible apply Box.set | with_reducible exact Box.new _ _ | with_reducible apply Box.other | with_reducible apply Box.alloc | with_reducible apply Box.drew | with_reducible apply Box.drewN | omega)); done)) rfl ?_))
  have z1 : w.heap.size < w1.heap.size := HZ1.out.lt
  refine bodyPost_ret (Box.ret rfl (HX1.out.set _) rfl) rfl ⟨a, n, cap, rfl, ?_, ?_⟩
  · refine kv_to HK1.out (fun c hc => ?_)
    have h1 : w.heap.size + 1 ≤ c := by have := hc.1; simpa using this
    refine ⟨⟨by omega, by rw [setRow_size]; simp; have := hc.2; omega⟩, ?_⟩
    rw [setRow_heap _ _ _ _ (by omega)]
    exact Below.heap_alloc _ _ _ hc.2
  · have b1 : Below w.heap.size w w1 := ((Below.refl _ w).alloc (Nat.le_refl _) _).trans (HB1.out.mono (by simp))
    have b2 := b1.alloc b1.size (.cells (hdC h (.slice a n cap)).toArray 68)
    exact ⟨b2.os, b2.tape, b2.output, by rw [setRow_size]; exact b2.size, fun i hi => by rw [setRow_heap _ _ _ _ (by omega)]; exact b2.block i hi⟩
end Go.Proofs.YtklldmidcmfbdaaGreatDoor
