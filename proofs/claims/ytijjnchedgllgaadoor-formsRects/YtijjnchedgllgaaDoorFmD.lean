/-
  The contract of the statements' deep; a node's kids.
-/
import Derived.Test.YtijjnchedgllgaaDoorFmV
import Derived.Test.YtijjnchedgllgaaDoorZ6
namespace Go.Proofs.YtijjnchedgllgaaDoor
open Go.RowKit Go.Shelf

set_option maxRecDepth 100000 in
set_option maxHeartbeats 4000000 in
theorem deep_any (D : Nat → Prop) (h : Hd) (k : Fo) (a : Option Addr) (n cap : Nat) (w : World) (hD : ∀ c, D c → c < w.heap.size) (hk : Kv w D (.slice a n cap) k) :
    Calls Tryd.prog 11 #[.agg (hdC h (.slice a n cap)).toArray] w fun e w' => e = .returned (.bool (decide (depthN k = 0))) ∧ Below w.heap.size w w' := by
  have HP : Hid (∀ W : World, Below w.heap.size w W → Calls Tryd.prog 25 #[.agg (hdC h (.slice a n cap)).toArray] W fun e w' => e = .returned (.int .i64 (depthN k : Int)) ∧ Below W.heap.size W w') := fun W hW => depth_any D h k _ W (fun c hc => Nat.lt_of_lt_of_le (hD c hc) hW.size) (kv_to hk (fun b hb => ⟨hb, hW.block b (hD b hb)⟩))
  have HX := hide (Box.new w (hdC h (.slice a n cap)))
  have HB := hide ((Below.refl _ w).alloc (Nat.le_refl _) (.cells (hdC h (.slice a n cap)).toArray 44))
  have he : ((depthN k : Int) == 0) = decide (depthN k = 0) := by
    by_cases h0 : depthN k = 0
    · simp [h0]
    · simp [h0]
  generalize depthN k = d at *
  clear hk hD
  go_enter Tryd.func11, Tryd.ntmps11
  go_wp2_with (first | (with_reducible refine wpl_id ?_; refine wpl_load rfl _ rfl _ rfl (by ((repeat' (first | with_reducible exact Hid.out (by assumption) | with_reducible apply Box.set | with_reducible exact Box.new _ _ | with_reducible apply Box.other | with_reducible apply Box.alloc | with_reducible apply Box.drew | with_reducible apply Box.drewN | omega)); done)) ?_) | (go_at_call 25; refine (HP.out _ HB.out).mono ?_; rintro e w1 ⟨rfl, hb1⟩; have HB1 := hide (HB.out.trans (hb1.mono HB.out.size)); clear hb1))
  go_ret
  exact ⟨by simp, HB1.out⟩
/-- A whole node read, under a guard that says yes. -/
theorem wpl_loadW {ops : Array Oper} {rest : List Oper} {o : Oper} {a : Act} {w : World} {Q : Exit → Act → World → Prop} (hw : Region.wanted o (yielded ops a.tmps) = true) (x : Operand) (ho : o.op = .load 44 x)
    (g : Nat) (hx : a.eval x = .pointer (some ⟨g, 0, none⟩)) {h : Hd} {v : Value} (hb : Box w g (hdC h v))
    (hk : wpList Tryd.prog ops Q rest (a.put o.dst (.agg (hdC h v).toArray)) w) : wpList Tryd.prog ops Q (o :: rest) a w :=
  wpList_step fun K hK' => by
    rw [if_pos hw]
    exact wp_loadN x ho g hx hb (hK' _ _ hk)
/-- The kids of a node, one by one. -/
def kidsL : Fo → List (Hd × Fo)
  | .nil => []
  | .cons h k r => (h, k) :: kidsL r
theorem kidsL_len : ∀ k : Fo, (kidsL k).length = k.len
  | .nil => rfl
  | .cons h k r => by simp [kidsL, Fo.len, kidsL_len r]
theorem first_sub : ∀ (l m r : List (Hd × Fo)), firstE (l ++ (m ++ r)) = 0 → firstE m = 0
  | l, m, r, h => by
    by_cases h1 : firstE l = 0
    · rw [first_app l _ h1] at h
      by_cases h2 : firstE m = 0
      · exact h2
      · rw [first_pre m r h2] at h
        exact absurd h h2
    · rw [first_pre l _ h1] at h
      exact absurd h h1
/-- A kid's parts lie among the parts of its node. -/
theorem kid_pre : ∀ (k : Fo) (x : Hd × Fo), x ∈ kidsL k → ∃ l r, preF k = l ++ (preF (.cons x.1 x.2 .nil) ++ r)
  | .nil, _, hx => by cases hx
  | .cons h k r, x, hx => by
    rcases List.mem_cons.1 hx with rfl | hx
    · exact ⟨[], preF r, by simp [preF]⟩
    · obtain ⟨l, q, e⟩ := kid_pre r x hx
      exact ⟨(h, k) :: (preF k ++ l), q, by simp [preF, e]⟩
theorem kid_all : ∀ (k : Fo) (x : Hd × Fo), x ∈ kidsL k → allB k = true → rightN x.1 x.2 = true
  | .nil, _, hx, _ => by cases hx
  | .cons h k r, x, hx, e => by
    simp only [allB, Bool.and_eq_true] at e
    rcases List.mem_cons.1 hx with rfl | hx
    · simp only [rightN, Bool.and_eq_true]
      exact e.1
    · exact kid_all r x hx e.2
theorem kid_deep : ∀ (k : Fo) (x : Hd × Fo), x ∈ kidsL k → x.2.deep + 1 ≤ k.deep ∧ x.2.many + 1 ≤ k.many
  | .nil, _, hx => by cases hx
  | .cons h k r, x, hx => by
    simp only [Fo.deep, Fo.many]
    rcases List.mem_cons.1 hx with rfl | hx
    · simp only
      omega
    · have := kid_deep r x hx
      omega
theorem kid_ok : ∀ (k : Fo) (x : Hd × Fo), x ∈ kidsL k → okF k → x.1.vs.length ≤ maxLen ∧ x.1.txt.length ≤ maxLen ∧ okF x.2
  | .nil, _, hx, _ => by cases hx
  | .cons h k r, x, hx, e => by
    rcases List.mem_cons.1 hx with rfl | hx
    · exact ⟨e.1.1, e.1.2, e.2.1⟩
    · exact kid_ok r x hx e.2.2
theorem kid_row {w : World} {D : Nat → Prop} : ∀ (k : Fo) (b o i : Nat) (x : Hd × Fo), (kidsL k)[i]? = some x → Row w D k b o → Row w D (.cons x.1 x.2 .nil) b (o + i * 16)
  | .nil, _, _, _, _, hx, _ => by cases hx
  | .cons h k r, b, o, 0, x, hx, hr => by
    obtain rfl : (h, k) = x := Option.some.inj hx
    obtain ⟨p1, p2, _⟩ := hr
    have : Row w D (.cons h k .nil) b o := ⟨p1, p2, trivial⟩
    simpa using this
  | .cons h k r, b, o, i + 1, x, hx, hr => by
    have hx' : (kidsL r)[i]? = some x := by simpa [kidsL] using hx
    have := kid_row r b (o + 16) i x hx' hr.2.2
    rw [show o + (i + 1) * 16 = o + 16 + i * 16 by omega]
    exact this
/-- What passes, its kids pass. -/
theorem kid_forms {h : Hd} {k : Fo} {x : Hd × Fo} (hx : x ∈ kidsL k) (e : formsE h k = 0) : formsE x.1 x.2 = 0 := by
  unfold formsE at e ⊢
  by_cases hc : checkN h k = 0
  · rw [if_pos hc] at e
    have hd := kid_deep k x hx
    have hcx : checkN x.1 x.2 = 0 := by
      unfold checkN at hc ⊢
      by_cases h1 : 160 < k.deep + 1
      · rw [if_pos h1] at hc; exact absurd hc (by decide)
      · rw [if_neg h1] at hc
        by_cases h2 : rightN h k = false
        · rw [if_pos h2] at hc; exact absurd hc (by decide)
        · rw [if_neg h2] at hc
          by_cases h3 : 40 < k.deep + 1
          · rw [if_pos h3] at hc; exact absurd hc (by decide)
          · have h2' : rightN h k = true := by simpa using h2
            simp only [rightN, Bool.and_eq_true] at h2'
            have := kid_all k x hx h2'.2
            rw [if_neg (by omega), if_neg (by simp [this]), if_neg (by omega)]
    rw [if_pos hcx]
    obtain ⟨l, r, he⟩ := kid_pre k x hx
    have e2 : firstE ((h, k) :: (l ++ (preF (.cons x.1 x.2 .nil) ++ r))) = 0 := by rw [← he]; simpa [preF] using e
    exact first_sub ((h, k) :: l) _ r (by simpa using e2)
  · rw [if_neg hc] at e
    exact absurd e hc
end Go.Proofs.YtijjnchedgllgaaDoor
