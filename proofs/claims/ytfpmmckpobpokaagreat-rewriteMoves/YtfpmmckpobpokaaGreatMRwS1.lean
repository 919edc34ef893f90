/-
  The contracts of the answer's slid, Lost and kids.
-/
import Derived.Test.YtfpmmckpobpokaaGreatMRwC1
set_option maxRecDepth 100000
set_option maxHeartbeats 4000000
namespace Go.Proofs.YtfpmmckpobpokaaGreat
open Go.RowKit
theorem CelAt.drew {w : World} {b : Nat} {r c : Int} {x y : Bool} (h : CelAt w b r c x y) : CelAt w.drew b r c x y := h
theorem rlost_ans (w : World) : Calls Tryz.prog 73 #[] w fun e w' => e = .returned (.agg (hdC lostH (.slice none 0 0)).toArray) ∧ Below w.heap.size w w' := by
 have HX := hide (Box.new w (hdC zh (.slice none 0 0)))
 go_enter Tryz.func73, Tryz.ntmps73
 go_wp2_with (first | (with_reducible refine wpl_id ?_; refine wpl_buildN rfl 33 _ rfl (qs := #[(0, .int .i64 1), (1, .agg #[.int .i64 4, .int .i64 0, .string ⟨#[]⟩, .bool false, .int .i64 3])]) rfl (run_lostN _) ?_) | (with_reducible refine wpl_id ?_; refine wpl_store rfl _ _ rfl _ rfl rfl (by ((repeat' (first | with_reducible (first | exact Hid.out (by assumption) | apply Box.set | exact Box.new _ _ | apply Box.other | apply Box.alloc | apply Box.drew | apply Box.drewN) | omega)); done)) rfl ?_))
 refine bodyPost_ret (Box.ret rfl (HX.out.set _) rfl) rfl ⟨rfl, ?_⟩
 exact below_set (below_al w _) (Nat.le_refl _) _
theorem rkids_any (h : Hd) (v : Value) (a : Option Addr) (n cap : Nat) (a0 : Option Addr) (n0 cap0 : Nat) (hv : v = .slice a0 n0 cap0) (w : World) : Calls Tryz.prog 68 #[.agg (hdC h v).toArray, .slice a n cap] w fun e w' => e = .returned (.agg (hdC h (.slice a n cap)).toArray) ∧ Below w.heap.size w w' := by
 subst hv
 have HX : Hid (Box ((w.alloc (.cells ((hdC h (.slice a0 n0 cap0)).set 15 (.slice a n cap)).toArray 33)).alloc (.cells #[.int .i64 0, .int .i64 0, .int .i64 0, .string ⟨#[]⟩, .bool false, .int .i64 0, .int .i64 0, .int .i64 0, .bool false, .bool false, .int .i64 0, .int .i64 0, .bool false, .bool false, .string ⟨#[]⟩, .slice none 0 0] 33)) w.heap.size (hdC h (.slice a n cap))) := hide ((Box.new w (hdC h (.slice a n cap))).alloc _)
 have HZ : Hid (Box ((w.alloc (.cells ((hdC h (.slice a0 n0 cap0)).set 15 (.slice a n cap)).toArray 33)).alloc (.cells #[.int .i64 0, .int .i64 0, .int .i64 0, .string ⟨#[]⟩, .bool false, .int .i64 0, .int .i64 0, .int .i64 0, .bool false, .bool false, .int .i64 0, .int .i64 0, .bool false, .bool false, .string ⟨#[]⟩, .slice none 0 0] 33)) (w.heap.size + 1) (hdC zh (.slice none 0 0))) := by
  have := Box.new (w.alloc (.cells ((hdC h (.slice a0 n0 cap0)).set 15 (.slice a n cap)).toArray 33)) (hdC zh (.slice none 0 0))
  rw [World.size_alloc] at this
  exact hide this
 have HB : Hid (Below w.heap.size w ((w.alloc (.cells ((hdC h (.slice a0 n0 cap0)).set 15 (.slice a n cap)).toArray 33)).alloc (.cells #[.int .i64 0, .int .i64 0, .int .i64 0, .string ⟨#[]⟩, .bool false, .int .i64 0, .int .i64 0, .int .i64 0, .bool false, .bool false, .int .i64 0, .int .i64 0, .bool false, .bool false, .string ⟨#[]⟩, .slice none 0 0] 33))) := hide (((Below.refl _ w).alloc (Nat.le_refl _) _).alloc (by simp) _)
 go_enter Tryz.func68, Tryz.ntmps68
 go_wp2_with (first | (with_reducible refine wpl_id ?_; refine wpl_load rfl _ rfl _ rfl (by ((repeat' (first | with_reducible (first | exact Hid.out (by assumption) | apply Box.set | exact Box.new _ _ | apply Box.other | apply Box.alloc | apply Box.drew | apply Box.drewN) | omega)); done)) ?_) | (with_reducible refine wpl_id ?_; refine wpl_store rfl _ _ rfl _ rfl rfl (by ((repeat' (first | with_reducible (first | exact Hid.out (by assumption) | apply Box.set | exact Box.new _ _ | apply Box.other | apply Box.alloc | apply Box.drew | apply Box.drewN) | omega)); done)) rfl ?_))
 refine bodyPost_ret (Box.ret rfl (HZ.out.set _) rfl) rfl ⟨rfl, ?_⟩
 exact below_set HB.out (by omega) _
end Go.Proofs.YtfpmmckpobpokaaGreat
