/-
  A text parted at its blanks: the contracts of strings.SplitSeq, and of the function that it makes.
-/
import Derived.Test.YtklldmidcmfbdaaGreatDoorFmR
import Derived.Test.YtklldmidcmfbdaaGreatDoorShelf
import Derived.Test.YtklldmidcmfbdaaGreatDoorVNum
import Derived.Lib.IndexLaws
namespace Go.Proofs.YtklldmidcmfbdaaGreatDoor
open Go.RowKit Go.Shelf

attribute [local go_sem] Oper.semAt_some

/-- A text parted at its blanks. -/
def splitL : List UInt8 → List (List UInt8)
  | [] => [[]]
  | c :: r => if c = 32 then [] :: splitL r else match splitL r with
    | [] => [[c]]
    | x :: xs => (c :: x) :: xs
theorem split_none : ∀ {l : List UInt8}, Lib.indexByte l 32 = -1 → splitL l = [l]
  | [], _ => rfl
  | c :: r, h => by
    unfold Lib.indexByte at h
    split at h
    · exact absurd h (by decide)
    · rename_i hc
      have hr : Lib.indexByte r 32 = -1 := by
        split at h
        · rename_i hr; simpa using hr
        · have := Lib.indexByte_ge r 32; omega
      rw [splitL, if_neg (by simpa using hc), split_none hr]
theorem split_some : ∀ {l : List UInt8} {o : Nat}, Lib.indexByte l 32 = o → splitL l = l.take o :: splitL (l.drop (o + 1)) ∧ o < l.length
  | [], o, h => by simp [Lib.indexByte] at h
  | c :: r, o, h => by
    unfold Lib.indexByte at h
    split at h
    · rename_i hc
      obtain rfl : o = 0 := by omega
      rw [splitL, if_pos (by simpa using hc)]
      simp
    · rename_i hc
      split at h
      · omega
      · have hge := Lib.indexByte_ge r 32
        rename_i hr
        have hne : Lib.indexByte r 32 ≠ -1 := fun e => hr (by simp [e])
        obtain ⟨p, rfl⟩ : ∃ p, o = p + 1 := ⟨o - 1, by omega⟩
        obtain ⟨e1, e2⟩ := split_some (l := r) (o := p) (by push_cast at h; omega)
        rw [splitL, if_neg (by simpa using hc), e1]
        simp [e2]
/-- The parts, as texts. -/
def splitB (s : ByteArray) : List ByteArray := (splitL s.data.toList).map fun l => ⟨l.toArray⟩
theorem bytes_of_list (s : ByteArray) : (⟨s.data.toList.toArray⟩ : ByteArray) = s := by simp
theorem splitB_none {s : ByteArray} (h : Lib.indexByte s.data.toList 32 = -1) : splitB s = [s] := by
  unfold splitB; rw [split_none h]; simp
theorem splitB_some {s : ByteArray} {o : Nat} (h : Lib.indexByte s.data.toList 32 = o) : splitB s = s.extract 0 o :: splitB (s.extract (o + 1) s.size) ∧ o < s.size := by
  obtain ⟨h1, h2⟩ := split_some h
  have e1 : (s.extract 0 o).data.toList = s.data.toList.take o := by simp
  have e2 : (s.extract (o + 1) s.size).data.toList = s.data.toList.drop (o + 1) := by
    simp
    rw [List.take_of_length_le (by simp)]
  refine ⟨?_, by simpa using h2⟩
  unfold splitB
  rw [h1, e2, List.map_cons, ← e1, bytes_of_list]
set_option maxHeartbeats 1000000 in
theorem splitSeq_any (s : ByteArray) (w : World) :
    Calls Tryz.prog 25 #[.string s, .string ⟨#[32]⟩] w fun e w' => e = .returned (.func (.func 49) #[] #[.pointer (some ⟨w.heap.size + 1, 0, none⟩), .pointer (some ⟨w.heap.size, 0, none⟩), .pointer (some ⟨w.heap.size + 1 + 1, 0, none⟩)])
      ∧ w' = ((w.alloc (.cells #[.string s] 9)).alloc (.cells #[.string ⟨#[32]⟩] 9)).alloc (.cells #[.int .i64 0] 3) := by
  have HC : Hid (∀ W : World, Calls Tryz.prog 36 #[.string s, .string ⟨#[32]⟩, .int .i64 0] W fun e w' => e = .returned (.func (.func 49) #[] #[.pointer (some ⟨W.heap.size + 1, 0, none⟩), .pointer (some ⟨W.heap.size, 0, none⟩), .pointer (some ⟨W.heap.size + 1 + 1, 0, none⟩)])
      ∧ w' = ((W.alloc (.cells #[.string s] 9)).alloc (.cells #[.string ⟨#[32]⟩] 9)).alloc (.cells #[.int .i64 0] 3)) := fun W => by
    go_enter Tryz.func36, Tryz.ntmps36
    go_wp2
    go_ret
    exact ⟨rfl, rfl⟩
  go_enter Tryz.func25, Tryz.ntmps25
  go_wp2_with (go_at_call 36; refine (HC.out _).mono ?_; rintro e w1 ⟨rfl, rfl⟩)
  go_ret
  exact ⟨rfl, rfl⟩

/-- What is left in the box of the text. -/
def leftIn (b : Nat) (W : World) : Nat := match W.cell? ⟨b, 0, none⟩ with
  | some (.string s) => s.size
  | _ => 0
set_option maxRecDepth 100000 in
set_option maxHeartbeats 2000000 in
theorem split_stops (n₀ B b : Nat) (s : ByteArray) (hs : s.size ≤ maxLen) :
    SeqR n₀ B (fun r => r = b) Tryz.prog 49 #[.pointer (some ⟨b + 1, 0, none⟩), .pointer (some ⟨b, 0, none⟩), .pointer (some ⟨b + 1 + 1, 0, none⟩)] (fun x : ByteArray => #[.string x])
      (fun xs => xs = splitB s) (fun pre => pre <+: splitB s) (splitB s).length (fun W => Sf B W b #[.string s] 9 ∧ Sf B W (b + 1) #[.string ⟨#[32]⟩] 9 ∧ Sf B W (b + 1 + 1) #[.int .i64 0] 3) := by
  intro l J Jx W hIt hJ hJx hY h0
  have HY := hide hY
  have HJ := hide hJ
  have HJx := hide hJx
  have HI := hide hIt
  obtain ⟨i1, i2, i3⟩ := hIt
  have q2 : W.cell? ⟨b + 1, 0, none⟩ = some (.string ⟨#[32]⟩) := i2.cell 0
  clear hY hJ hJx
  refine callsIn_of_wp Tryz.func49 rfl trivial ?_ rfl
  simp only [Tryz.ntmps49, List.size_toArray, List.length_cons, List.length_nil, Nat.reduceAdd, Nat.reduceSub, Array.replicate_succ, Array.replicate_zero, List.push_toArray, List.append_toArray, List.nil_append, List.cons_append]
  gi_wp2
  gi_loopw [] (fun wr => ∃ (r : ByteArray) (pre : List ByteArray), r.size ≤ maxLen ∧ splitB s = pre ++ splitB r ∧ J pre wr ∧ Sf B wr b #[.string r] 9 ∧ Sf B wr (b + 1) #[.string ⟨#[32]⟩] 9 ∧ Sf B wr (b + 1 + 1) #[.int .i64 0] 3) (fun wr => leftIn b wr)
  case atStart => exact ⟨s, [], hs, rfl, h0, i1, i2, i3⟩
  case round =>
    obtain ⟨r, pre, hr, hx, hJr, s1, s2, s3⟩ := hrel
    clear q2 i1 i2 i3
    have c1 : wr.cell? ⟨b, 0, none⟩ = some (.string r) := s1.cell 0
    have c2 : wr.cell? ⟨b + 1, 0, none⟩ = some (.string ⟨#[32]⟩) := s2.cell 0
    have c3 : wr.cell? ⟨b + 1 + 1, 0, none⟩ = some (.int .i64 0) := s3.cell 0
    have HC : Hid (∀ X : World, CallsIn Fence.wide 0 Tryz.prog 51 #[.string r, .string ⟨#[32]⟩] X fun e w' => e = .returned (.int .i64 (Lib.indexByte r.data.toList 32)) ∧ w' = X) := fun X => callsIn_wide.2 (Tryz.strings_Index_one r 32 X)
    have HX := hide hx
    have HJr := hide hJr
    have HS : Hid (Sf B wr b #[.string r] 9 ∧ Sf B wr (b + 1) #[.string ⟨#[32]⟩] 9 ∧ Sf B wr (b + 1 + 1) #[.int .i64 0] 3) := ⟨s1, s2, s3⟩
    have hms : leftIn b wr = r.size := by unfold leftIn; rw [c1]
    clear hx hJr s1 s2 s3
    by_cases h1 : Lib.indexByte r.data.toList 32 = -1
    · have hlt : Lib.indexByte r.data.toList 32 < 0 := by omega
      have HXX := hide (splitB_none h1)
      clear h1
      generalize Lib.indexByte r.data.toList 32 = I at *
      obtain ⟨fn, tmps, assign, body, hy, hR⟩ := HY.out pre r wr HJr.out (by rw [HX.out, HXX.out]; simp)
      have HR := hide hR
      clear hR
      gi_wp2_with (refine ⟨trivial, rfl, ?_⟩; gi_at_call 51; refine (HC.out _).mono ?_; rintro e wz ⟨rfl, hz⟩; subst wz)
      refine ⟨rfl, HR.out.mono ?_⟩
      rintro e W3 (⟨rfl, hJ3, _⟩ | ⟨rfl, hJ3, _⟩)
      · gi_wp2
        go_end0
        exact ⟨⟨_, rfl⟩, .inl ⟨_, by rw [HX.out, HXX.out], hJ3⟩⟩
      · gi_wp2
        go_end0
        exact ⟨⟨_, rfl⟩, .inr ⟨_, by rw [HX.out, HXX.out]; exact List.prefix_refl _, hJ3⟩⟩
    · obtain ⟨o, ho⟩ : ∃ o : Nat, Lib.indexByte r.data.toList 32 = o := ⟨(Lib.indexByte r.data.toList 32).toNat, by have := Lib.indexByte_ge r.data.toList 32; omega⟩
      obtain ⟨e1, e2⟩ := splitB_some ho
      have HXX := hide e1
      rw [ho] at HC
      obtain ⟨fn, tmps, assign, body, hy, hR⟩ := HY.out pre (r.extract 0 o) wr HJr.out (by rw [HX.out, HXX.out]; simp)
      have HR := hide hR
      clear hR h1 ho e1
      have hm : r.size ≤ 9223372036854775807 := by unfold maxLen at hr; omega
      have w1 : wrap64 (o : Int) = (o : Int) := by unfold wrap64; omega
      have w2 : wrap64 ((o : Int) + 1) = ((o + 1 : Nat) : Int) := by unfold wrap64; omega
      have n1 : ¬ (o : Int) < 0 := by omega
      have n2 : (o : Int) ≤ (r.size : Int) := by omega
      have n3 : ((o + 1 : Nat) : Int) ≤ (r.size : Int) := by omega
      gi_wp2_with (refine ⟨trivial, rfl, ?_⟩; gi_at_call 51; refine (HC.out _).mono ?_; rintro e wz ⟨rfl, hz⟩; subst wz)
      refine ⟨rfl, HR.out.mono ?_⟩
      rintro e W3 (⟨rfl, hJ3, hk3, _⟩ | ⟨rfl, hJ3, _⟩)
      · obtain ⟨s1, s2, s3⟩ := HS.out
        have t1 := s1.kept hk3
        have t2 := s2.kept hk3
        have t3 := s3.kept hk3
        have d1 : W3.cell? ⟨b, 0, none⟩ = some (.string r) := t1.cell 0
        have d2 : W3.cell? ⟨b + 1, 0, none⟩ = some (.string ⟨#[32]⟩) := t2.cell 0
        have f1 := t1.frozen
        have HT : Hid (Sf B W3 b #[.string r] 9 ∧ Sf B W3 (b + 1) #[.string ⟨#[32]⟩] 9 ∧ Sf B W3 (b + 1 + 1) #[.int .i64 0] 3) := ⟨t1, t2, t3⟩
        have HJ3 := hide hJ3
        clear t1 t2 t3 s1 s2 s3 hk3 hJ3 hy c1 c2 c3
        gi_wp2
        go_roundw
        case rel =>
          obtain ⟨t1, t2, t3⟩ := HT.out
          exact ⟨r.extract (o + 1) r.size, pre ++ [r.extract 0 o], by rw [ByteArray.size_extract]; omega, by rw [HX.out, HXX.out]; simp, HJ.out.set _ HJ3.out (.inl rfl) t1.row ⟨_, _, t1.at_⟩, t1.set _, t2.other (by omega) t1.ne _, t3.other (by omega) t1.ne _⟩
        case measure =>
          obtain ⟨t1, _, _⟩ := HT.out
          have hcell : (W3.setCell ⟨b, 0, none⟩ (.string (r.extract (o + 1) r.size))).cell? ⟨b, 0, none⟩ = some (.string (r.extract (o + 1) r.size)) := (t1.set _).cell 0
          rw [hms]
          unfold leftIn
          rw [hcell]
          simp only [ByteArray.size_extract]
          omega
      · gi_wp2
        refine bodyPost_ret (results_none rfl _ _ _) rfl ?_
        exact ⟨⟨_, rfl⟩, .inr ⟨pre ++ [r.extract 0 o], by rw [HX.out, HXX.out]; exact ⟨splitB (r.extract (o + 1) r.size), by simp⟩, hJ3⟩⟩
end Go.Proofs.YtklldmidcmfbdaaGreatDoor
