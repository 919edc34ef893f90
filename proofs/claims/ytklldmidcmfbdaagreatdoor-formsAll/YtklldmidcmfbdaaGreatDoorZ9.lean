/-
  Out of TrN3, TrN4, TrO9, TrOP, what is asked for (laid by pack9.py).
-/
import Derived.Test.YtklldmidcmfbdaaGreatDoorVNum
import Derived.Test.YtklldmidcmfbdaaGreatDoorVVal
import Derived.Test.YtklldmidcmfbdaaGreatDoorVVal3
import Derived.Test.YtklldmidcmfbdaaGreatDoorVVal4
import Derived.Test.YtklldmidcmfbdaaGreatDoorZ1
import Derived.Test.YtklldmidcmfbdaaGreatDoorZ2c
import Derived.Test.YtklldmidcmfbdaaGreatDoorZ3
import Derived.Test.YtklldmidcmfbdaaGreatDoorZ4
import Derived.Test.YtklldmidcmfbdaaGreatDoorZ5
import Derived.Test.YtklldmidcmfbdaaGreatDoorZ5b
import Derived.Test.YtklldmidcmfbdaaGreatDoorZ6
import Derived.Test.YtklldmidcmfbdaaGreatDoorZ7
import Derived.Test.YtklldmidcmfbdaaGreatDoorZ8
import Derived.BigCall
import Derived.BigGuard
import Derived.BigQuiet
import Derived.ChangeArms
import Derived.Deep.MidRow
import Derived.Deep.QuietTactic
import Derived.Deep.RegionHeld3
import Derived.Deep.RegionWith
import Derived.Deep.WholeRow
import Derived.Defers
import Derived.Great.BuildSlice
import Derived.LaidEql
import Derived.Laws.Cover1
import Derived.Laws.EntriesVeiled
import Derived.Laws.IdiomStrings
import Derived.Lib.AppendIntMem
import Derived.Lib.AtoiErrMem
import Derived.Lib.IndexMore
import Derived.Lib.ItoaMem
import Derived.Lib.LaidTab
import Derived.Lib.MinMax
import Derived.Lib.OthersKept
import Derived.Lib.Replace
import Derived.Lib.ReplaceLaws
import Derived.Lib.SmallJoins
import Derived.Lib.Walk
import Derived.LoopIn
import Derived.LoopNIn
import Derived.LoopTactic
import Derived.Maps.AppendAt
import Derived.OwnWalkIn
import Derived.RangeFuncBound
import Derived.RangeFuncBox
import Derived.RangeFuncCalls
import Derived.RangeFuncLeaves
import Derived.RangeFuncNested
import Derived.Recover
import Derived.RowKitTokens
import Derived.Shelf.Abstract
import Derived.Shelf.RegionOpen
import Derived.Stop.Asserts
import Derived.TacticsInMore
import Derived.WalkKit
import Derived.WalkLawsBesides
import Derived.WalkSmall
import Derived.WalkSpells
import Derived.WideShapes
namespace Go.Proofs.YtklldmidcmfbdaaGreatDoor
section
open Go.RowKit
/-- What may stand behind a value or a cell. -/
def Apart (r : List UInt8) : Prop := ∀ c, r.head? = some c → wordB c = false ∧ c.toNat ≠ 34 ∧ c.toNat ≠ 40
theorem apart_cons {c : UInt8} (r : List UInt8) (h1 : wordB c = false) (h2 : c.toNat ≠ 34) (h3 : c.toNat ≠ 40) : Apart (c :: r) := fun d h => by
  simp at h; subst h; exact ⟨h1, h2, h3⟩
theorem first_eq (c : UInt8) (r : List UInt8) : firstT (c :: r) = if isDig c then numberT (c :: r) else if c.toNat = 34 then textT (c :: r) else if c.toNat = 35 then faultT (c :: r) else if letterB c || decide (c.toNat = 36) then wordT (c :: r) else signT (c :: r) := rfl
end
section
open Go.RowKit
theorem bind_sign {s : List UInt8} (h : 0 < bindN s) : s ∈ signs ∧ ∀ r, Apart (s ++ r) := by
  have hs : s = [61] ∨ s = [60, 62] ∨ s = [60] ∨ s = [62] ∨ s = [60, 61] ∨ s = [62, 61] ∨ s = [38] ∨ s = [43] ∨ s = [45] ∨ s = [42] ∨ s = [47] := by
    unfold bindN at h
    split at h
    · rename_i e; rcases e with e | e | e | e | e | e <;> simp [e]
    · split at h
      · rename_i e; simp [e]
      · split at h
        · rename_i e; rcases e with e | e <;> simp [e]
        · split at h
          · rename_i e; rcases e with e | e <;> simp [e]
          · exact absurd h (by omega)
  rcases hs with rfl | rfl | rfl | rfl | rfl | rfl | rfl | rfl | rfl | rfl | rfl
  all_goals exact ⟨by decide, fun r => apart_cons _ (by decide) (by decide) (by decide)⟩
end
section
open Go.RowKit
theorem rsingle_all (ts : List Tok) (g o cap i : Nat) (w : World) (hT : TkAt w g o cap ts) (hi : i < ts.length) (hl : ts.length ≤ 2000) (hN : ∀ p, p < ts.length → (hd (ts.drop p)).kind = 3 → atB (ts.drop (p + 1)) [40] = true) (he : Ended (ts.drop i)) (h45 : atB (ts.drop i) [45] = false)
    (HF : ∀ p, i < p → p < ts.length → Ended (ts.drop p) → ReadC ts g o cap p 0 (rd (.form 1) (ts.drop p))) :
    Calls Tryz.prog 68 #[.slice (some ⟨g, o, none⟩) ts.length cap, .int .i64 (i : Int)] w (ToldR ts w (rd .single (ts.drop i))) := by
  by_cases k1 : (hd (ts.drop i)).kind = 1
  · exact rsingle_val ts g o cap i _ _ _ w hT hi hl he rfl rfl rfl k1
  by_cases k2 : (hd (ts.drop i)).kind = 2
  · cases hc : atB (ts.drop (i + 1)) [58] with
    | false => exact rsingle_cell ts g o cap i _ _ _ w hT hi hl he rfl rfl rfl k2 hc
    | true =>
      by_cases k3 : (hd (ts.drop (i + 2))).kind = 2
      · exact rsingle_range ts g o cap i _ _ _ w hT hi hl he rfl rfl rfl k2 hc k3
      · exact rsingle_half ts g o cap i _ _ _ w hT hi hl he rfl rfl rfl k2 hc k3
  by_cases k3 : (hd (ts.drop i)).kind = 3
  · have h40 := hN i hi k3
    have e1 : Ended (ts.drop (i + 1)) := by rw [drop_tail]; exact ended_tail he (.inl (by omega))
    have e2 : Ended (ts.drop (i + 2)) := by rw [show i + 2 = i + 1 + 1 from rfl, drop_tail]; exact ended_at e1 h40
    have h2 : i + 2 < ts.length := drop_lt (ended_ne e2)
    have HL : ListC ts g o cap (i + 2) (rdL (ts.drop (i + 2))) := fun W hW => by
      cases h41 : atB (ts.drop (i + 2)) [41] with
      | true => exact rlist_empty ts g o cap (i + 2) _ W hW h2 hl e2 rfl h41
      | false => exact rlist_some ts g o cap (i + 2) W hW h2 hl e2 h41 (fun p h1 h3 h4 => HF p (by omega) h3 h4)
    cases hq : rdL (ts.drop (i + 2)) with
    | ok h k l => exact rsingle_call_ok ts g o cap i _ _ w hT hi hl rfl rfl k3 h40 HL h k l hq
    | bad l => exact rsingle_call_bad ts g o cap i _ _ w hT hi hl rfl rfl k3 h40 HL l hq
  cases h40 : atB (ts.drop i) [40] with
  | false => exact rsingle_none ts g o cap i w hT hi k1 k2 k3 h45 h40
  | true =>
    have e1 : Ended (ts.drop (i + 1)) := by rw [drop_tail]; exact ended_at he h40
    have h1 : i + 1 < ts.length := drop_lt (ended_ne e1)
    have HR := HF (i + 1) (by omega) h1 e1
    cases hq : rd (.form 1) (ts.drop (i + 1)) with
    | bad l => exact rsingle_open_bad ts g o cap i _ w hT hi hl rfl h40 HR l hq
    | ok h k l =>
      cases h41 : atB l [41] with
      | true => exact rsingle_open_yes ts g o cap i _ w hT hi hl rfl h40 HR h k l hq (rd_ended (c := .form 1) (by simp [fine]) e1 hq) h41
      | false => exact rsingle_open_no ts g o cap i _ w hT hi hl rfl h40 HR h k l hq h41
/-- A line out of the next one. -/
theorem read_step (ts : List Tok) (g o cap i : Nat) (w : World) (hT : TkAt w g o cap ts) (hi : i < ts.length) (hl : ts.length ≤ 2000) (hP : Plain ts) (hel : Ended (ts.drop i)) (j : Nat) (hj : j ≤ 3) (HS : ReadC ts g o cap i ((j + 1 : Nat) : Int) (rd (.form (j + 2)) (ts.drop i)))
    (HF : ∀ p, i < p → p < ts.length → Ended (ts.drop p) → ReadC ts g o cap p ((j + 1 : Nat) : Int) (rd (.form (j + 2)) (ts.drop p))) :
    Calls Tryz.prog 46 #[.slice (some ⟨g, o, none⟩) ts.length cap, .int .i64 (i : Int), .int .i64 (j : Int)] w (ToldR ts w (rd (.form (j + 1)) (ts.drop i))) := by
  cases hq : rd (.form (j + 2)) (ts.drop i) with
  | bad l =>
    have hr : rd (.form (j + 1)) (ts.drop i) = .bad l := by rw [form_split (j + 1) (by omega), hq]; rfl
    rw [hr]
    rw [hq] at HS
    exact read_line_bad ts g o cap i w hT j (j + 1) hj rfl l HS
  | ok h k l =>
    rw [hq] at HS
    exact read_line ts g o cap i w hT hi j (j + 1) hj rfl hl hP hel _ rfl h k l hq HS HF
/-- All lines, by how many tokens are left. -/
theorem read_lines (ts : List Tok) (g o cap : Nat) (hl : ts.length ≤ 2000) (hP : Plain ts) (hN : ∀ p, p < ts.length → (hd (ts.drop p)).kind = 3 → atB (ts.drop (p + 1)) [40] = true) : ∀ (n i : Nat), i < ts.length → ts.length - i ≤ n → Ended (ts.drop i) →
    ReadC ts g o cap i 4 (rd .single (ts.drop i)) ∧ ∀ j : Nat, j ≤ 3 → ReadC ts g o cap i (j : Int) (rd (.form (j + 1)) (ts.drop i))
  | 0, i, hi, hn, _ => absurd hn (by omega)
  | n + 1, i, hi, hn, he => by
    have ih := fun p (h1 : i < p) (h2 : p < ts.length) (h3 : Ended (ts.drop p)) => read_lines ts g o cap hl hP hN n p h2 (by omega) h3
    have h4 : ReadC ts g o cap i 4 (rd .single (ts.drop i)) := fun W hW => by
      cases h45 : atB (ts.drop i) [45] with
      | true =>
        have e1 : Ended (ts.drop (i + 1)) := by rw [drop_tail]; exact ended_at he h45
        have h1 : i + 1 < ts.length := drop_lt (ended_ne e1)
        exact read_four_yes ts g o cap i W hW hi _ rfl hl h45 _ rfl (ih (i + 1) (by omega) h1 e1).1
      | false =>
        have h5 : ReadC ts g o cap i 5 (rd .single (ts.drop i)) := fun W' hW' => read_five ts g o cap i W' hW' _ (fun W'' hW'' => rsingle_all ts g o cap i W'' hW'' hi hl hN he h45 (fun p h1 h2 h3 => (ih p h1 h2 h3).2 0 (by omega)))
        exact read_four_no ts g o cap i W hW hi h45 _ h5
    have g4 : ∀ p, i < p → p < ts.length → Ended (ts.drop p) → ReadC ts g o cap p ((3 + 1 : Nat) : Int) (rd (.form (3 + 2)) (ts.drop p)) := fun p h1 h2 h3 => by
      rw [show 3 + 2 = 5 from rfl, form_five]
      exact (ih p h1 h2 h3).1
    have gj : ∀ j : Nat, j ≤ 2 → ∀ p, i < p → p < ts.length → Ended (ts.drop p) → ReadC ts g o cap p ((j + 1 : Nat) : Int) (rd (.form (j + 2)) (ts.drop p)) := fun j hj p h1 h2 h3 => (ih p h1 h2 h3).2 (j + 1) (by omega)
    have r3 : ReadC ts g o cap i ((3 : Nat) : Int) (rd (.form (3 + 1)) (ts.drop i)) := fun W hW => read_step ts g o cap i W hW hi hl hP he 3 (by omega) (by rw [show 3 + 2 = 5 from rfl, form_five]; exact h4) g4
    have r2 : ReadC ts g o cap i ((2 : Nat) : Int) (rd (.form (2 + 1)) (ts.drop i)) := fun W hW => read_step ts g o cap i W hW hi hl hP he 2 (by omega) r3 (gj 2 (by omega))
    have r1 : ReadC ts g o cap i ((1 : Nat) : Int) (rd (.form (1 + 1)) (ts.drop i)) := fun W hW => read_step ts g o cap i W hW hi hl hP he 1 (by omega) r2 (gj 1 (by omega))
    have r0 : ReadC ts g o cap i ((0 : Nat) : Int) (rd (.form (0 + 1)) (ts.drop i)) := fun W hW => read_step ts g o cap i W hW hi hl hP he 0 (by omega) r1 (gj 0 (by omega))
    refine ⟨h4, fun j hj => ?_⟩
    have : j = 0 ∨ j = 1 ∨ j = 2 ∨ j = 3 := by omega
    rcases this with rfl | rfl | rfl | rfl
    · exact r0
    · exact r1
    · exact r2
    · exact r3
/-- Texts of tokens that are no signs do not bind. -/
theorem first_txt (l : List UInt8) : (firstT l).1.kind = 3 ∨ (firstT l).1.kind = 4 ∨ (firstT l).1.txt = [] := by
  match l with
  | [] => exact .inr (.inr rfl)
  | c :: r =>
    rw [first_eq]
    split
    · unfold numberT
      split <;> exact .inr (.inr rfl)
    · split
      · unfold textT
        cases txt (c :: r).tail with
        | none => exact .inr (.inr rfl)
        | some x =>
          unfold textOfT
          simp only
          split <;> exact .inr (.inr rfl)
      · split
        · unfold faultT
          cases pick nameL (c :: r) 1 7 with
          | none => exact .inr (.inr rfl)
          | some x => exact .inr (.inr rfl)
        · split
          · unfold wordT
            split
            · unfold nameT
              split
              · exact .inr (.inr rfl)
              · exact .inl rfl
            · unfold plainT
              split
              · exact .inr (.inr rfl)
              · split <;> exact .inr (.inr rfl)
          · unfold signT
            cases pick signL (c :: r) 0 15 with
            | none => exact .inr (.inr rfl)
            | some x => exact .inr (.inl rfl)
theorem name_binds {s : List UInt8} (h : nameOk s = true) : bindN s = 0 := by
  refine Classical.byContradiction fun hn => ?_
  obtain ⟨_, ha⟩ := bind_sign (s := s) (by omega)
  unfold nameOk at h
  simp only [Bool.and_eq_true, decide_eq_true_eq, Bool.not_eq_true'] at h
  cases s with
  | nil => simp at h
  | cons c r =>
    have h1 := h.1.2
    have h2 := (ha [] c rfl).1
    simp [greatB] at h1
    unfold wordB letterB at h2
    simp only [Bool.or_eq_false_iff, decide_eq_false_iff_not] at h2
    omega
theorem run_plain : ∀ (f p : Nat) (l : List UInt8), ∀ x ∈ runG f p l, x.1.kind ≠ 4 → bindN x.1.txt = 0
  | 0, _, _, x, h => by simp [runG] at h
  | f + 1, p, l, x, h => by
    rw [run_step f p l _ rfl _ rfl] at h
    rcases List.mem_cons.1 h with e | e
    · subst e
      intro hk
      have hf := fit_first (l.drop (runN blankB l))
      rcases first_txt (l.drop (runN blankB l)) with h1 | h1 | h1
      · exact name_binds (hf.2.2 h1)
      · exact absurd h1 hk
      · show bindN (firstT (l.drop (runN blankB l))).1.txt = 0
        rw [h1]; exact bind_nil
    · split at e
      · cases e
      · exact run_plain f _ _ x e
theorem scan_plain {l : List UInt8} (h : (scanR l).2.2 = 0) : Plain (scanR l).1 := by
  obtain ⟨_, _, h3⟩ := scan_zero h
  rw [h3]
  intro t ht
  obtain ⟨x, hx, rfl⟩ := List.mem_map.1 ht
  exact run_plain _ _ _ x hx
theorem named_at : ∀ (ts : List Tok), Named ts → ∀ p, p < ts.length → (hd (ts.drop p)).kind = 3 → atB (ts.drop (p + 1)) [40] = true
  | [], _, p, h, _ => by simp at h
  | t :: r, hN, 0, _, hk => hN.1 hk
  | t :: r, hN, p + 1, h, hk => named_at r hN.2 p (by simpa using h) hk
/-- What Parse hands back. -/
theorem Box.retQ {fn : Func} {p s u : Tmp} (hf : fn.results = #[.cell p 68, .tmp s, .tmp u]) {tmps : Array Value} {w : World} {b : Nat} {h : Hd} {v x y : Value} (k : Box w b (hdC h v)) (hp : tmps.getD p undef = .pointer (some ⟨b, 0, none⟩)) (hs : tmps.getD s undef = x) (hu : tmps.getD u undef = y) : (results fn tmps).run Tryz.prog w = .ok (.tuple #[nodeV h v, x, y]) w := by
  have hp' : tmps[p]?.getD undef = .pointer (some ⟨b, 0, none⟩) := by simpa using hp
  have hs' : tmps[s]?.getD undef = x := by simpa using hs
  have hu' : tmps[u]?.getD undef = y := by simpa using hu
  simp [results, hf, hp', hs', hu', asAddr, run_loadVar_row w b 68 68 (hdC h v).toArray (0, 0) _ k Tryz.underlying68 rfl (by rw [sizeNode]; rfl)]
  rfl
end
section
open Go.RowKit
theorem wpl_loadRW {ops : Array Oper} {rest : List Oper} {o : Oper} {a : Act} {w : World} {Q : Exit → Act → World → Prop} (hw : Region.wanted o (yielded ops a.tmps) = true) (x : Operand) (ho : o.op = .load 68 x)
    (g : Nat) (hx : a.eval x = .pointer (some ⟨g, 0, none⟩)) {h : Hd} {v : Value} {p : Nat} {b : Bool} (hb : BoxR w g (rdC h v p b))
    (hk : wpList Tryz.prog ops Q rest (a.put o.dst (.agg (hdC h v).toArray)) w) : wpList Tryz.prog ops Q (o :: rest) a w :=
  wpList_step fun K hK' => by
    rw [if_pos hw]
    refine wp_run (exec_loadAt x ho g 0 hx hb.node) (hK' _ _ hk)
/-- What Scan leaves. -/
theorem scanned (s : ByteArray) (w : World) (hs : s.size ≤ maxLen) (h0 : (scanR s.data.toList).2.2 = 0) :
    Calls Tryz.prog 45 #[.string s] w fun e w' => ∃ g o cap, e = .returned (.tuple #[.slice (some ⟨g, o, none⟩) (scanR s.data.toList).1.length cap, .int .i64 0, .int .i64 0]) ∧ TkAt w' g o cap (scanR s.data.toList).1 ∧ w.heap.size ≤ g ∧ Below w.heap.size w w' := by
  refine (rscan_any s w hs).mono ?_
  rintro e w' ⟨v, rfl, hr, hb⟩
  obtain ⟨g, o, cap, hv, ht⟩ := tk_of_rd hr.rd (ended_ne (scan_ended h0))
  have h1 : (scanR s.data.toList).2.1 = 0 := by rw [(scan_zero h0).2.2]
  have hg : w.heap.size ≤ g := by
    unfold RowT at hr
    rcases hr.2 with ⟨hn, _⟩ | ⟨g', cap', cur, hn, hb', _⟩
    · rw [hv] at hn; cases hn
    · rw [hv] at hn; cases hn; exact hb'
  exact ⟨g, o, cap, by rw [h0, h1, hv], ht, hg, hb⟩
theorem reads_all {l : List UInt8} (h0 : (scanR l).2.2 = 0) (g o cap : Nat) : ReadC (scanR l).1 g o cap 0 0 (rd (.form 1) (scanR l).1) := by
  have hl := scan_len h0
  have he := scan_ended h0
  have := (read_lines (scanR l).1 g o cap (by omega) (scan_plain h0) (named_at _ (scan_named h0)) _ 0 (List.length_pos_iff.2 (ended_ne he)) (Nat.le_refl _) (by simpa using he)).2 0 (by omega)
  simpa using this
/-- Kids that lie behind a block, as Depth takes them. -/
theorem kv_wide {w W : World} {v : Value} {k : Fo} {m : Nat} (h : Kv W (fun c => w.heap.size < c ∧ c < m) v k) (hm : m ≤ W.heap.size) : Kv W (fun c => w.heap.size < c ∧ c < W.heap.size) v k := kv_to h (fun b hb => ⟨⟨hb.1, by have := hb.2; omega⟩, rfl⟩)
set_option maxRecDepth 100000 in
set_option maxHeartbeats 2000000 in
theorem rparse_fine (s : ByteArray) (w : World) (hs : s.size ≤ maxLen) (h0 : (scanR s.data.toList).2.2 = 0) (ts : List Tok) (hts : (scanR s.data.toList).1 = ts) (h : Hd) (k : Fo) (l1 : List Tok) (hq : rd (.form 1) ts = .ok h k l1) (hk1 : (hd l1).kind = 0) (hd0 : depthN k ≠ 0) (hd4 : ¬ 40 < depthN k) :
    Calls Tryz.prog 34 #[.string s] w fun e w' => ∃ a n cap, e = .returned (.tuple #[nodeV h (.slice a n cap), .int .i64 0, .int .i64 0]) ∧ Kv w' (New w w') (.slice a n cap) k ∧ Below w.heap.size w w' := by
  have HC : Hid (∀ W : World, Calls Tryz.prog 45 #[.string s] W fun e w' => ∃ g o cap, e = .returned (.tuple #[.slice (some ⟨g, o, none⟩) ts.length cap, .int .i64 0, .int .i64 0]) ∧ TkAt w' g o cap ts ∧ W.heap.size ≤ g ∧ Below W.heap.size W w') := fun W => by rw [← hts]; exact scanned s W hs h0
  have HR : Hid (∀ g o cap, ReadC ts g o cap 0 0 (rd (.form 1) ts)) := fun g o cap => by rw [← hts]; exact reads_all h0 g o cap
  have HX := hide (Box.new w (hdC zh (.slice none 0 0)))
  have hln : ts.length ≤ 1025 := by rw [← hts]; exact scan_len h0
  rw [hq] at HR
  have HD : Hid (∀ (W : World) (v : Value) (m : Nat), m ≤ W.heap.size → Kv W (fun c => w.heap.size < c ∧ c < m) v k → Calls Tryz.prog 47 #[.agg (hdC h v).toArray] W fun e w' => e = .returned (.int .i64 (depthN k : Int)) ∧ Below W.heap.size W w') := fun W v m hm hW => depth_any _ h k v W (fun c hc => hc.2) (kv_wide hW hm)
  have hdb : ((depthN k : Int) == 0) = false := by rw [beq_eq_false_iff_ne]; omega
  have hdc : ¬ (40 : Int) < (depthN k : Int) := by omega
  clear hq h0 hts hs hd0 hd4
  generalize (depthN k : Int) = dd at *
  go_enter Tryz.func34, Tryz.ntmps34
  go_wp2_with (first | (go_at_call 45; refine (HC.out _).mono ?_; rintro e w1 ⟨g, o, cap, rfl, ht1, hg1, hb1⟩; have HT1 := hide ht1; have HGx : Hid (w.heap.size < g) := (by simp at hg1; exact hg1); have HX1 := hide (HX.out.below hb1); have HB1 := hide (below_alloc' hb1); clear ht1 hb1 hg1) | (go_at_call 46; refine (HR.out g o cap _ HT1.out).mono ?_; rintro e w2 ⟨a2, n2, c2, p, rfl, hk2, hb2, hd2, hp2⟩; have HN2 : Hid (Kv (w2.alloc (.cells (rdC h (.slice a2 n2 c2) p false).toArray 111)) (fun c => w.heap.size < c ∧ c < w2.heap.size) (.slice a2 n2 c2) k) := kv_to hk2 (fun c hc => ⟨⟨by have h1 := hc.1; have h2 := HB1.out.size; have h3 := HX1.out.lt; omega, hc.2⟩, Below.heap_alloc _ _ _ hc.2⟩); have HT2 := (HT1.out.below hb2).below (below_al w2 (.cells (rdC h (.slice a2 n2 c2) p false).toArray 111)); have tk0 := HT2.tok hp2 0 (by omega); have tk11 := HT2.tok hp2 11 (by omega); rw [hd2] at tk0 tk11; have k0 : (w2.alloc (.cells (rdC h (.slice a2 n2 c2) p false).toArray 111)).cell? ⟨g, o + p * 12, none⟩ = some (.int .i64 (hd l1).kind) := tk0; have k11 : (w2.alloc (.cells (rdC h (.slice a2 n2 c2) p false).toArray 111)).cell? ⟨g, o + p * 12 + 11, none⟩ = some (.int .i64 (hd l1).pos) := tk11;  have hcp : ts.length ≤ cap := HT2.1; have hcm : cap ≤ 9223372036854775807 := HT2.2.1; clear tk0 tk11 HT2; have HY2 := hide (BoxR.new w2 (rdC h (.slice a2 n2 c2) p false)); have c16 := HY2.out.at; have c17 := HY2.out.bad; have HX2 := hide ((HX1.out.below hb2).alloc (.cells (rdC h (.slice a2 n2 c2) p false).toArray 111)); have HB2 := hide (bar_below (bar_below HB1.out (Bar.of hb2)) (Bar.of (below_al w2 (.cells (rdC h (.slice a2 n2 c2) p false).toArray 111)))); have z2 := hb2.size; have HZ2 : Hid (w2.heap.size ≤ (w2.alloc (.cells (rdC h (.slice a2 n2 c2) p false).toArray 111)).heap.size) := (below_al w2 _).size; clear hk2 hb2) | (with_reducible refine wpl_id ?_; refine wpl_newR rfl _ _ rfl rfl rfl rfl ?_) | (with_reducible refine wpl_id ?_; refine wpl_loadRW rfl _ rfl _ rfl (by first | exact HY4.out | exact HY3.out | exact HY2.out) ?_) | (go_at_call 47; refine (HD.out _ _ w2.heap.size HZ3.out HN3.out).mono ?_; rintro e w4 ⟨rfl, hb4⟩; have HY4 := hide (HY3.out.below hb4 HY3.out.lt); have HN4 : Hid (Kv w4 (fun c => w.heap.size < c ∧ c < w2.heap.size) (.slice a2 n2 c2) k) := kv_to HN3.out (fun c hc => ⟨hc, hb4.block c (Nat.lt_of_lt_of_le hc.2 HZ3.out)⟩); have HX4 := hide (HX3.out.below hb4); have HZ4 : Hid (w2.heap.size ≤ w4.heap.size) := Nat.le_trans HZ3.out hb4.size; have HB4 := hide (bar_below HB3.out (Bar.of hb4)); clear hb4) | (go_at_call 47; refine (HD.out _ _ w2.heap.size HZ2.out HN2.out).mono ?_; rintro e w3 ⟨rfl, hb3⟩; have HY3 := hide (HY2.out.below hb3 HY2.out.lt); have HN3 : Hid (Kv w3 (fun c => w.heap.size < c ∧ c < w2.heap.size) (.slice a2 n2 c2) k) := kv_to HN2.out (fun c hc => ⟨hc, hb3.block c (Nat.lt_of_lt_of_le hc.2 HZ2.out)⟩); have HX3 := hide (HX2.out.below hb3); have HZ3 : Hid (w2.heap.size ≤ w3.heap.size) := Nat.le_trans HZ2.out hb3.size; have HB3 := hide (bar_below HB2.out (Bar.of hb3)); clear hb3) | (with_reducible refine wpl_id ?_; refine wpl_store rfl _ _ rfl _ rfl rfl HX4.out rfl ?_))
  refine bodyPost_ret (Box.retQ rfl (HX4.out.set _) rfl rfl rfl) rfl ?_
  refine ⟨a2, n2, c2, rfl, kv_to HN4.out (fun b hb => ⟨⟨Nat.le_of_lt hb.1, ?_⟩, setRow_heap _ _ _ _ (by have := hb.1; omega)⟩), below_set HB4.out (Nat.le_refl _) _⟩
  rw [setRow_size]
  exact Nat.lt_of_lt_of_le hb.2 HZ4.out
theorem rparsed_ok (s : ByteArray) (w : World) (hs : s.size ≤ maxLen) (h : Hd) (k : Fo) (hp : parseN s.data.toList = .ok h k) :
    Calls Tryz.prog 34 #[.string s] w fun e w' => ∃ a n cap, e = .returned (.tuple #[nodeV h (.slice a n cap), .int .i64 0, .int .i64 0]) ∧ Kv w' (New w w') (.slice a n cap) k ∧ Below w.heap.size w w' := by
  unfold parseN at hp
  by_cases h0 : (scanR s.data.toList).2.2 = 0
  · rw [if_neg (by simp [h0])] at hp
    cases hq : rd (.form 1) (scanR s.data.toList).1 with
    | bad l1 => rw [hq, endR] at hp; cases hp
    | ok h' k' l1 =>
      rw [hq, endR] at hp
      obtain ⟨_, hm⟩ := read_right h0 hq
      split at hp
      · cases hp
      · rename_i hk
        have hk' : (hd l1).kind = 0 := by simpa using hk
        split at hp
        · cases hp
        · rename_i hd4
          cases hp
          have hdn : depthN k = k.deep + 1 := by unfold depthN; rw [if_pos ⟨by omega, by omega⟩]
          exact rparse_fine s w hs h0 _ rfl h k l1 hq hk' (by omega) (by omega)
  · rw [if_pos h0] at hp
    cases hp
end
end Go.Proofs.YtklldmidcmfbdaaGreatDoor
