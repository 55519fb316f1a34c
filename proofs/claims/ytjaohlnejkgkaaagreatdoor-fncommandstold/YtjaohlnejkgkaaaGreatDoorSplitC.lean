/- strings.SplitSeq at a byte: its contract. -/
import Derived.Test.YtjaohlnejkgkaaaGreatDoorBase
import Derived.Test.YtjaohlnejkgkaaaGreatDoorPlainA
import Derived.Test.YtjaohlnejkgkaaaGreatDoorRowsA
import Derived.Test.YtjaohlnejkgkaaaGreatDoorShelf
import Derived.Test.YtjaohlnejkgkaaaGreatDoorRangeMoves
import Derived.RangeFuncNested
import Derived.RangeFuncBox
import Derived.RangeFuncBound
import Derived.RangeFuncCalls
import Derived.RangeFuncLeaves
import Derived.Shelf.Abstract
import Derived.Shelf.RegionOpen
import Derived.WalkKit
import Derived.OwnWalkIn
import Derived.TacticsInMore
import Derived.LoopNIn
import Derived.LoopIn
import Derived.Maps.AppendAt
namespace Go.Proofs.YtjaohlnejkgkaaaGreatDoor
open Go.RowKit Go.Shelf
open Plain
set_option linter.unusedVariables false

attribute [local go_sem] Oper.semAt_some

/-- What a round is handed: a part of the text. -/
abbrev Pt := { x : ByteArray // x.size ≤ 1048576 }
def ptOf (x : Pt) : List UInt8 := x.1.data.toList
abbrev ptEnc (x : Pt) : Array Value := #[.string x.1]

/-- What a round keeps: all that lay ahead, and the iterator's three boxes. -/
def KpS (n₀ B : Nat) (W W' : World) : Prop := Below n₀ W W' ∧ ∀ k, B ≤ k → k < B + 3 → W'.heap[k]? = W.heap[k]?
theorem KpS.t {n₀ B : Nat} {X Y Z : World} (h : KpS n₀ B X Y) (k : KpS n₀ B Y Z) : KpS n₀ B X Z := ⟨h.1.trans k.1, fun i h1 h2 => (k.2 i h1 h2).trans (h.2 i h1 h2)⟩
theorem KpS.b {n₀ B : Nat} {w : World} (hn : n₀ ≤ w.heap.size) (hB : B + 3 ≤ w.heap.size) (W : World) (l : Nat) (o o' : Obj) (hl : w.heap.size ≤ l) (h : W.heap[l]? = some o) (ho : o.isCells = false) (hw : o.isWalk = false) : KpS n₀ B W (W.putObj l o') :=
  ⟨belowK_b hn W l o o' hl h ho hw, fun k h1 h2 => World.putObj_heap_other (by omega)⟩

/-- The three boxes: what is left of the text, the byte, none of it kept. -/
def SpBox (c : UInt8) (B : Nat) (W : World) (s : ByteArray) : Prop := Boxed W B 9 (.string s) ∧ Boxed W (B + 1) 9 (.string ⟨#[c]⟩) ∧ Boxed W (B + 2) 3 (.int .i64 0)
theorem SpBox.keep {c : UInt8} {B : Nat} {W W' : World} {s : ByteArray} (h : SpBox c B W s) (hk : ∀ k, B ≤ k → k < B + 3 → W'.heap[k]? = W.heap[k]?) : SpBox c B W' s :=
  ⟨(hk B (by omega) (by omega)).trans h.1, (hk (B + 1) (by omega) (by omega)).trans h.2.1, (hk (B + 2) (by omega) (by omega)).trans h.2.2⟩
theorem SpBox.moved {c : UInt8} {B : Nat} {W : World} {s t : ByteArray} (h : SpBox c B W s) : SpBox c B (W.setCell ⟨B, 0, none⟩ (.string t)) t := by
  refine ⟨?_, h.2.1.other (by omega) _, h.2.2.other (by omega) _⟩
  have h1 : W.heap[B]? = some (.cells #[.string s] 9 (0, 0)) := h.1
  show (W.setCell ⟨B, 0, none⟩ (.string t)).heap[B]? = some (.cells #[.string t] 9 (0, 0))
  simp [World.setCell, h1, Array.getElem?_modify]
def leftV (v : Value) : Nat := match v with
  | .string s => s.size + 1
  | _ => 0
def leftS (B : Nat) (W : World) : Nat := match W.cell? ⟨B, 0, none⟩ with
  | some v => leftV v
  | none => 0
theorem SpBox.left {c : UInt8} {B : Nat} {W : World} {s : ByteArray} (h : SpBox c B W s) : leftS B W = s.size + 1 := by
  unfold leftS
  rw [h.1.cell]
  rfl
namespace Plain
theorem extract_to (s : ByteArray) (i : Nat) : (s.extract 0 i).data.toList = s.data.toList.take i := by simp
theorem extract_from (s : ByteArray) (i : Nat) : (s.extract i s.size).data.toList = s.data.toList.drop i := by
  rw [ByteArray.data_extract, Array.toList_extract]
  show (s.data.toList.drop i).take (s.data.size - i) = _
  rw [List.take_of_length_le (by simp)]
theorem cuts_pos (c : UInt8) (l : List UInt8) : 1 ≤ (cutsL c l).length := by
  cases l with
  | nil => simp [cutsL]
  | cons b r =>
    rw [cutsL]
    split
    · simp
    · split <;> simp
theorem no_comma {l : List UInt8} {c : UInt8} (h : ∀ k : Nat, l[k]? ≠ some c) : ∀ b ∈ l, b ≠ c := by
  intro b hb e
  obtain ⟨k, hk, rfl⟩ := List.getElem_of_mem hb
  exact h k (by rw [List.getElem?_eq_getElem hk, e])
theorem no_comma_to {l : List UInt8} {c : UInt8} {i : Nat} (h : ∀ k, k < i → l[k]? ≠ some c) : ∀ b ∈ l.take i, b ≠ c := by
  intro b hb e
  obtain ⟨k, hk, rfl⟩ := List.getElem_of_mem hb
  have hk2 : k < i := by have := hk; simp at this; omega
  have hk3 : k < l.length := by have := hk; simp at this; omega
  refine h k hk2 ?_
  rw [List.getElem_take] at e
  rw [List.getElem?_eq_getElem hk3, e]
theorem cuts_here {l : List UInt8} {c : UInt8} {i : Nat} (h1 : ∀ k, k < i → l[k]? ≠ some c) (h2 : l[i]? = some c) : cutsL c l = l.take i :: cutsL c (l.drop (i + 1)) := by
  have hi : i < l.length := (List.getElem?_eq_some_iff.1 h2).1
  have e : l = l.take i ++ c :: l.drop (i + 1) := by
    have h3 : l[i] = c := (List.getElem?_eq_some_iff.1 h2).2
    rw [← h3, List.getElem_cons_drop hi, List.take_append_drop]
  have := cuts_at (c := c) (l.take i) (l.drop (i + 1)) (no_comma_to h1)
  rw [← e] at this
  exact this
end Plain

set_option maxRecDepth 100000 in
set_option maxHeartbeats 4000000 in
theorem split1_in (c : UInt8) (n : Nat) (hn : 1 ≤ n) (l B n₀ : Nat) (t : ByteArray) (ht : t.size ≤ 1048576) (J Jx : List Pt → World → Prop) (W : World)
    (hSt : ∀ s A v, J s A → J s (A.setCell ⟨B, 0, none⟩ v))
    (hY : ∀ pre x W1, J pre W1 → pre.length < (cutsL c t.data.toList).length → YieldAt Fence.wide (n - 1) Tryz.prog l (ptEnc x) W1 fun e W' =>
      (e = .returned (.bool true) ∧ J (pre ++ [x]) W' ∧ KpS n₀ B W1 W') ∨ (e = .returned (.bool false) ∧ Jx (pre ++ [x]) W'))
    (hB : SpBox c B W t) (h0 : J [] W) :
    CallsIn Fence.wide n Tryz.prog 78 #[.func (.yield l) #[] #[], .pointer (some ⟨B + 1, 0, none⟩), .pointer (some ⟨B, 0, none⟩), .pointer (some ⟨B + 2, 0, none⟩)] W fun e W' => (∃ v, e = .returned v) ∧
      ((∃ ys, ys.map ptOf = cutsL c t.data.toList ∧ J ys W') ∨ (∃ pre, (pre.map ptOf <+: cutsL c t.data.toList) ∧ Jx pre W')) := by
  have HY := hide hY
  have HS := hide hSt
  have c1 := hB.2.1.cell
  have HB := hide hB
  have H0 := hide h0
  clear hY hSt hB h0
  refine callsIn_of_wp Tryz.func78 rfl trivial ?_ rfl
  simp only [Tryz.ntmps78, List.size_toArray, List.length_cons, List.length_nil, Nat.reduceAdd, Nat.reduceSub, Array.replicate_succ, Array.replicate_zero, List.push_toArray, List.append_toArray, List.nil_append, List.cons_append]
  gi_wp2
  gi_loopw [7] (fun _ wr => ∃ (pre : List Pt) (s : ByteArray), s.size ≤ t.size ∧ pre.map ptOf ++ cutsL c s.data.toList = cutsL c t.data.toList ∧ SpBox c B wr s ∧ J pre wr)
    (fun _ wr => leftS B wr)
  case atStart => exact ⟨[], t, Nat.le_refl _, rfl, unhide HB, unhide H0⟩
  case round =>
    obtain ⟨pre, s, hsz, hcut, hbx, hj⟩ := hrel
    clear c1
    have c0 := hbx.1.cell
    have c1 := hbx.2.1.cell
    have c2 := hbx.2.2.cell
    have z0 := hbx.1.frozen
    have hlen : pre.length < (cutsL c t.data.toList).length := by
      have := congrArg List.length hcut
      have h2 := cuts_pos c s.data.toList
      simp at this
      omega
    have IX := hide (fun W => Tryz.strings_Index_one s c W)
    have hge := Lib.indexByte_ge s.data.toList c
    have LM := hide hbx.left
    by_cases h : Lib.indexByte s.data.toList c = -1
    · have CO := hide (cuts_one (c := c) s.data.toList (no_comma (fun k => Lib.indexByte_none h k)))
      obtain ⟨fn, tmps, assign, body, hy, hR⟩ := unhide HY pre ⟨s, by omega⟩ wr hj hlen
      dsimp only [ptEnc] at hy
      have HR := hide hR
      have HC := hide hcut
      rw [h] at IX
      clear h hge hR hcut hj hbx
      gi_wp2_with (refine ⟨trivial, ?_⟩; gi_at_call 80; refine (callsIn_wide.2 (unhide IX _)).mono ?_; rintro e w1 ⟨rfl, hw⟩; subst w1)
      refine (unhide HR).mono ?_
      rintro e' W3 (⟨rfl, hJ3, hk3⟩ | ⟨rfl, hJx3⟩)
      · have JJ := hide hJ3
        clear hJ3 hk3
        gi_wp2
        go_end0
        refine ⟨⟨_, rfl⟩, .inl ⟨_, ?_, unhide JJ⟩⟩
        rw [List.map_append, ← unhide HC, unhide CO]
        rfl
      · have JJ := hide hJx3
        clear hJx3
        gi_wp2
        go_end0
        refine ⟨⟨_, rfl⟩, .inr ⟨_, ?_, unhide JJ⟩⟩
        rw [List.map_append, ← unhide HC, unhide CO]
        exact List.prefix_refl _
    · obtain ⟨o, ho⟩ : ∃ o : Nat, Lib.indexByte s.data.toList c = o := ⟨(Lib.indexByte s.data.toList c).toNat, by omega⟩
      have SM := Lib.indexByte_some ho
      have hlt : o < s.size := (List.getElem?_eq_some_iff.1 SM.1).1
      have CH := hide (cuts_here SM.2 SM.1)
      obtain ⟨fn, tmps, assign, body, hy, hR⟩ := unhide HY pre ⟨s.extract 0 o, by simp; omega⟩ wr hj hlen
      dsimp only [ptEnc] at hy
      have HR := hide hR
      have HC := hide hcut
      have HX := hide hbx
      rw [ho] at IX
      have i1 : (0 : Int) ≤ (o : Int) := by omega
      have i2 : (o : Int) ≤ (s.size : Int) := by omega
      have i3 : IntKind.i64.wrap ((o : Int) + 1) = (o : Int) + 1 := by rw [IntKind.wrap_i64]; omega
      have i4 : (0 : Int) ≤ (o : Int) + 1 := by omega
      have i5 : (o : Int) + 1 ≤ (s.size : Int) := by omega
      clear h hge ho SM hR hcut hj hbx
      gi_wp2_with (refine ⟨trivial, ?_⟩; gi_at_call 80; refine (callsIn_wide.2 (unhide IX _)).mono ?_; rintro e w1 ⟨rfl, hw⟩; subst w1)
      refine (unhide HR).mono ?_
      rintro e' W3 (⟨rfl, hJ3, hk3⟩ | ⟨rfl, hJx3⟩)
      · have hb3 := (unhide HX).keep hk3.2
        have d0 := hb3.1.cell
        have d1 := hb3.2.1.cell
        have d2 := hb3.1.frozen
        have J4 := hide (unhide HS _ W3 (.string (s.extract (o + 1) s.size)) hJ3)
        have B4 := hide (hb3.moved (t := s.extract (o + 1) s.size))
        clear hJ3 hk3 hb3 HR HX hy
        gi_wp2
        go_roundw
        case rel =>
          refine ⟨_, _, ?_, ?_, unhide B4, unhide J4⟩
          · simp; omega
          · rw [← unhide HC, unhide CH, List.map_append, List.append_assoc, extract_from]
            show _ ++ ([ptOf _] ++ _) = _
            unfold ptOf
            simp only
            rw [extract_to]
            rfl
        case measure =>
          show leftS B (W3.setCell ⟨B, 0, none⟩ (.string (s.extract (o + 1) s.size))) < leftS B wr
          rw [(unhide B4).left, unhide LM]
          simp
          omega
      · have JJ := hide hJx3
        clear hJx3
        gi_wp2
        refine bodyPost_ret (results_none rfl _ _ _) rfl ?_
        refine ⟨⟨_, rfl⟩, .inr ⟨_, ?_, unhide JJ⟩⟩
        rw [← unhide HC, unhide CH, List.map_append]
        refine ⟨cutsL c (s.data.toList.drop (o + 1)), ?_⟩
        rw [List.append_assoc]
        show _ ++ ([ptOf _] ++ _) = _
        unfold ptOf
        simp only
        rw [extract_to]
        rfl

theorem split_moves (c : UInt8) (n : Nat) (hn : 1 ≤ n) (B n₀ : Nat) (t : ByteArray) (ht : t.size ≤ 1048576) (w : World) (hB : SpBox c B w t) (hlt : B + 3 ≤ w.heap.size) :
    SeqMoves n Tryz.prog 78 #[.pointer (some ⟨B + 1, 0, none⟩), .pointer (some ⟨B, 0, none⟩), .pointer (some ⟨B + 2, 0, none⟩)] ptEnc B (KpS n₀ B) (fun ys => ys.map ptOf = cutsL c t.data.toList) (fun pre => pre.map ptOf <+: cutsL c t.data.toList) (cutsL c t.data.toList).length w := fun l J Jx W hW hJ hSt hY h0 =>
  split1_in c n hn l B n₀ t ht J Jx W hSt hY (hB.keep (fun k h1 h2 => hW.block k (by omega))) h0

set_option maxHeartbeats 1000000 in
theorem splitSeq_in (c : UInt8) (n : Nat) (s : ByteArray) (w : World) :
    CallsIn Fence.wide n Tryz.prog 70 #[.string s, .string ⟨#[c]⟩, .int .i64 0] w fun e w' => e = .returned (.func (.func 78) #[] #[.pointer (some ⟨w.heap.size + 1, 0, none⟩), .pointer (some ⟨w.heap.size, 0, none⟩), .pointer (some ⟨w.heap.size + 2, 0, none⟩)]) ∧ SpBox c w.heap.size w' s ∧ w'.heap.size = w.heap.size + 3 ∧ Below w.heap.size w w' ∧ KeepsOthers w w' := by
  refine callsIn_of_wp Tryz.func70 rfl trivial ?_ rfl
  simp only [Tryz.ntmps70, List.size_toArray, List.length_cons, List.length_nil, Nat.reduceAdd, Nat.reduceSub, Array.replicate_succ, Array.replicate_zero, List.push_toArray, List.append_toArray, List.nil_append, List.cons_append]
  gi_wp2
  go_ret
  have n0 := Boxed.new w 9 (.string s)
  have n1 := Boxed.new (w.alloc (.cells #[.string s] 9)) 9 (.string ⟨#[c]⟩)
  have n2 := Boxed.new ((w.alloc (.cells #[.string s] 9)).alloc (.cells #[.string ⟨#[c]⟩] 9)) 3 (.int .i64 0)
  rw [World.size_alloc] at n1
  rw [World.size_alloc, World.size_alloc] at n2
  refine ⟨rfl, ⟨(n0.alloc _).alloc _, n1.alloc _, n2⟩, by simp, (((Below.refl _ _).alloc (Nat.le_refl _) _).alloc (by simp) _).alloc (by simp; omega) _, ((KeepsOthers.alloc _ _).trans (KeepsOthers.alloc _ _)).trans (KeepsOthers.alloc _ _)⟩

set_option maxHeartbeats 1000000 in
theorem SplitSeq_in (c : UInt8) (n : Nat) (s : ByteArray) (w : World) :
    CallsIn Fence.wide n Tryz.prog 59 #[.string s, .string ⟨#[c]⟩] w fun e w' => e = .returned (.func (.func 78) #[] #[.pointer (some ⟨w.heap.size + 1, 0, none⟩), .pointer (some ⟨w.heap.size, 0, none⟩), .pointer (some ⟨w.heap.size + 2, 0, none⟩)]) ∧ SpBox c w.heap.size w' s ∧ w'.heap.size = w.heap.size + 3 ∧ Below w.heap.size w w' ∧ KeepsOthers w w' := by
  refine callsIn_of_wp Tryz.func59 rfl trivial ?_ rfl
  simp only [Tryz.ntmps59, List.size_toArray, List.length_cons, List.length_nil, Nat.reduceAdd, Nat.reduceSub, Array.replicate_succ, Array.replicate_zero, List.push_toArray, List.append_toArray, List.nil_append, List.cons_append]
  gi_wp2
  refine ⟨trivial, fun h => (by cases h), (splitSeq_in c _ s _).mono ?_⟩
  rintro e w1 ⟨rfl, h1, h2, h3, h4⟩
  gi_wp2
  go_ret
  exact ⟨rfl, h1, h2, h3, h4⟩
end Go.Proofs.YtjaohlnejkgkaaaGreatDoor
