/- The reader of frames that is handed a yield: its contract. -/
import Derived.Test.YtnlcknklghalkaaDoorSpecUnframe
import Derived.RangeFuncNested
import Derived.RangeFuncBox
import Derived.RangeFuncBound
import Derived.RangeFuncCalls
import Derived.RangeFuncLeaves
import Derived.Shelf.Abstract
import Derived.Shelf.RegionOpen
import Derived.WalkKit
import Derived.OwnWalkIn
import Derived.TacticsInMore
import Derived.LoopNIn
import Derived.LoopIn
import Derived.Maps.AppendAt
namespace Go.Proofs.YtnlcknklghalkaaDoor
open Go.RowKit Go.Shelf
open Plain
set_option linter.unusedVariables false

attribute [local go_sem] Oper.semAt_some

/-- What a round is handed: a record, and the place behind it. -/
abbrev Fr := { x : ByteArray × Nat // x.1.size ≤ 20000 ∧ x.2 ≤ 20000 }
def frOf (x : Fr) : List UInt8 × Nat := (x.1.1.data.toList, x.1.2)
abbrev frEnc (x : Fr) : Array Value := #[.string x.1.1, .int .i64 (x.1.2 : Int)]

/-- What a round keeps: all that lay ahead, and the box of the file. -/
def KpF (n₀ Bn : Nat) (s : ByteArray) (W W' : World) : Prop := Below n₀ W W' ∧ (Boxed W Bn 9 (.string s) → Boxed W' Bn 9 (.string s))
theorem KpF.t {n₀ Bn : Nat} {s : ByteArray} {A B C : World} (h : KpF n₀ Bn s A B) (k : KpF n₀ Bn s B C) : KpF n₀ Bn s A C := ⟨h.1.trans k.1, fun x => k.2 (h.2 x)⟩
theorem KpF.b {n₀ Bn : Nat} {s : ByteArray} {w : World} (hn : n₀ ≤ w.heap.size) (W : World) (l : Nat) (o o' : Obj) (hl : w.heap.size ≤ l) (h : W.heap[l]? = some o) (ho : o.isCells = false) (hw : o.isWalk = false) : KpF n₀ Bn s W (W.putObj l o') := by
  refine ⟨belowK_b hn W l o o' hl h ho hw, fun x => ?_⟩
  refine x.kept (grownBy_putObj' W l o') (fun e => ?_)
  cases e
  rw [show W.heap[Bn]? = _ from x] at h
  cases h
  cases ho

theorem Tabbed.belowN {n : Nat} {w w1 : World} (h : Below n w w1) (hn : 0 < n) (ht : Tabbed w) : Tabbed w1 := var?_below h gHalf hn ht
theorem Tabbed.lt {w : World} (ht : Tabbed w) : 0 < w.heap.size := World.block_lt_of_cell? w _ (ht.cell 0 (by decide))

/-- How many bytes are left behind a frame. -/
def leftF (n : Nat) (b o : Value) : Nat := match o with
  | .bool true => n + 1 - (intOf b).toNat
  | _ => 0

theorem frV_parts (x : Option (List UInt8 × Nat)) : ∃ r b o, frV x = .tuple #[r, b, o] := by
  cases x with
  | none => exact ⟨_, _, _, rfl⟩
  | some p => obtain ⟨t, e⟩ := p; exact ⟨_, _, _, rfl⟩
theorem frV_some {t : List UInt8} {e : Nat} {r b o : Value} (h : frV (some (t, e)) = .tuple #[r, b, o]) : r = .string ⟨t.toArray⟩ ∧ b = .int .i64 (e : Int) ∧ o = .bool true := by
  simp [frV] at h
  exact ⟨h.1.symm, h.2.1.symm, h.2.2.symm⟩
theorem frV_none {r b o : Value} (h : frV none = .tuple #[r, b, o]) : r = .string ⟨#[]⟩ ∧ b = .int .i64 0 ∧ o = .bool false := by
  simp [frV] at h
  exact ⟨h.1.symm, h.2.1.symm, h.2.2.symm⟩

theorem leftF_step {s : ByteArray} {e : Nat} {r b o : Value} (he : e ≤ s.size) (h : frV (frL s.data.toList e) = .tuple #[r, b, o]) : leftF s.size b o < leftF s.size (.int .i64 (e : Int)) (.bool true) := by
  have e1 : leftF s.size (.int .i64 (e : Int)) (.bool true) = s.size + 1 - e := by simp [leftF, intOf]
  rw [e1]
  cases hx : frL s.data.toList e with
  | none =>
    rw [hx] at h
    obtain ⟨rfl, rfl, rfl⟩ := frV_none h
    show 0 < _
    omega
  | some p =>
    obtain ⟨t, e'⟩ := p
    rw [hx] at h
    obtain ⟨rfl, rfl, rfl⟩ := frV_some h
    have h2 := frL_some hx
    have h3 : e' ≤ s.size := h2.2.1
    have e2 : leftF s.size (.int .i64 (e' : Int)) (.bool true) = s.size + 1 - e' := by simp [leftF, intOf]
    rw [e2]
    omega

set_option maxRecDepth 100000 in
set_option maxHeartbeats 4000000 in
theorem frames1_in (n : Nat) (hn : 1 ≤ n) (l Bn n₀ : Nat) (s : ByteArray) (hs : s.size ≤ 20000) (J Jx : List Fr → World → Prop) (W : World) (hn₀ : n₀ ≤ W.heap.size) (hT0 : 0 < n₀)
    (hJ : AbidesFrom W.heap.size J)
    (hY : ∀ pre x W1, J pre W1 → pre.length < (frs s.data.toList 0).length → YieldAt Fence.wide (n - 1) Tryd.prog l (frEnc x) W1 fun e W' =>
      (e = .returned (.bool true) ∧ J (pre ++ [x]) W' ∧ KpF n₀ Bn s W1 W') ∨ (e = .returned (.bool false) ∧ Jx (pre ++ [x]) W'))
    (hBn : Boxed W Bn 9 (.string s)) (ht : Tabbed W) (h0 : J [] W) :
    CallsIn Fence.wide n Tryd.prog 36 #[.func (.yield l) #[] #[], .pointer (some ⟨Bn, 0, none⟩)] W fun e W' => (∃ v, e = .returned v) ∧
      ((∃ ys, ys.map frOf = frs s.data.toList 0 ∧ J ys W') ∨ (∃ pre, True ∧ Jx pre W')) := by
  have hJ2 : Hid (∀ ys A B, J ys A → Below A.heap.size A B → J ys B) := fun ys A B h hb => hJ ys A B none h (grown_below hb none) (fun r e => by cases e)
  have HY := hide hY
  have hc0 := hBn.cell
  have C0 := hide (frameAt_any s 0 W hs (Nat.zero_le _) ht)
  have HB := hide hBn
  have HT := hide ht
  clear hJ hY hBn ht
  refine callsIn_of_wp Tryd.func36 rfl trivial ?_ rfl
  simp only [Tryd.ntmps36, List.size_toArray, List.length_cons, List.length_nil, Nat.reduceAdd, Nat.reduceSub, Array.replicate_succ, Array.replicate_zero, List.push_toArray, List.append_toArray, List.nil_append, List.cons_append]
  obtain ⟨r0, b0, o0, e0⟩ := frV_parts (frL s.data.toList 0)
  rw [e0] at C0
  have E0 := hide e0
  have H0 := hide h0
  clear h0 e0
  gi_wp2_with (refine ⟨trivial, ?_⟩; gi_at_call 37; refine (callsIn_wide.2 (unhide C0)).mono ?_; rintro e w1 ⟨rfl, hb1⟩)
  gi_loopw [3, 4, 5] (fun r b o wr => ∃ (pre : List Fr) (A : Nat), frV (frL s.data.toList A) = .tuple #[r, b, o] ∧ FrInv s.data.toList (pre.map frOf) A ∧ Boxed wr Bn 9 (.string s) ∧ Tabbed wr ∧ J pre wr)
    (fun _ b o _ => leftF s.size b o)
  case atStart =>
    exact ⟨[], 0, unhide E0, FrInv.start _, (unhide HB).kept (grown_below hb1 none) (by simp), (unhide HT).below hb1, unhide hJ2 _ _ _ (unhide H0) hb1⟩
  case round =>
    obtain ⟨pre, A, he, hinv, hbx, htr, hj⟩ := hrel
    cases hx : frL s.data.toList A with
    | none =>
      rw [hx] at he
      obtain ⟨rfl, rfl, rfl⟩ := frV_none he
      have D := hide (hinv.done hx).1
      have JJ := hide hj
      clear he hinv hbx htr hj hx
      gi_wp2
      refine ⟨fun _ h => (by cases h), ?_⟩
      gi_wp2
      go_end0
      exact ⟨⟨_, rfl⟩, .inl ⟨pre, unhide D, unhide JJ⟩⟩
    | some p =>
      obtain ⟨t, e⟩ := p
      rw [hx] at he
      obtain ⟨rfl, rfl, rfl⟩ := frV_some he
      obtain ⟨p1, p2, p3, p4⟩ := frL_some hx
      have p2' : e ≤ s.size := p2
      obtain ⟨fn, tmps, assign, body, hy, hR⟩ := unhide HY pre ⟨(⟨t.toArray⟩, e), by (show t.length ≤ 20000); omega, by omega⟩ wr hj (by have := hinv.lt hx; simpa using this)
      dsimp only [frEnc] at hy
      have HR := hide hR
      have ST := hide (hinv.step hx)
      have HX := hide hbx
      have TT := hide htr
      clear he hinv hbx htr hj hx hR
      gi_wp2
      refine (unhide HR).mono ?_
      rintro e' W3 (⟨rfl, hJ3, hk3⟩ | ⟨rfl, hJx3⟩)
      · have hb3 := hk3.2 (unhide HX)
        have ht3 := Tabbed.belowN hk3.1 hT0 (unhide TT)
        have hc3 := hb3.cell
        have C3 := hide (frameAt_any s e W3 hs p2' ht3)
        obtain ⟨r3, b3, o3, e3⟩ := frV_parts (frL s.data.toList e)
        rw [e3] at C3
        have E3 := hide e3
        have X3 := hide hb3
        have T3 := hide ht3
        have J3 := hide hJ3
        clear hk3 hb3 ht3 e3 hJ3 HX TT HR hy
        gi_wp2_with (refine ⟨trivial, ?_⟩; gi_at_call 37; refine (callsIn_wide.2 (unhide C3)).mono ?_; rintro e' w4 ⟨rfl, hb4⟩)
        go_roundw
        case rel => exact ⟨pre ++ [⟨(⟨t.toArray⟩, e), by (show t.length ≤ 20000); omega, by omega⟩], e, unhide E3, by rw [List.map_append]; exact unhide ST, (unhide X3).kept (grown_below hb4 none) (by simp), (unhide T3).below hb4, unhide hJ2 _ _ _ (unhide J3) hb4⟩
        case measure => exact leftF_step p2' (unhide E3)
      · gi_wp2
        go_end0
        exact ⟨⟨_, rfl⟩, .inr ⟨_, trivial, hJx3⟩⟩

set_option maxHeartbeats 1000000 in
theorem framesOf_in (n : Nat) (s : ByteArray) (w : World) :
    CallsIn Fence.wide n Tryd.prog 27 #[.string s] w fun e w' => e = .returned (.func (.func 36) #[] #[.pointer (some ⟨w.heap.size, 0, none⟩)]) ∧ w' = w.alloc (.cells #[.string s] 9) := by
  refine callsIn_of_wp Tryd.func27 rfl trivial ?_ rfl
  simp only [Tryd.ntmps27, List.size_toArray, List.length_cons, List.length_nil, Nat.reduceAdd, Nat.reduceSub, Array.replicate_succ, Array.replicate_zero, List.push_toArray, List.append_toArray, List.nil_append, List.cons_append]
  gi_wp2
  go_ret
  exact ⟨rfl, rfl⟩

/-- The reader's contract. -/
theorem frames_stops (n : Nat) (hn : 1 ≤ n) (Bn n₀ : Nat) (s : ByteArray) (hs : s.size ≤ 20000) (w : World) (hn₀ : n₀ ≤ w.heap.size) (hT0 : 0 < n₀) (hBn : Boxed w Bn 9 (.string s)) (ht : Tabbed w) :
    SeqStopsK Fence.wide n Tryd.prog 36 #[.pointer (some ⟨Bn, 0, none⟩)] frEnc (KpF n₀ Bn s) (fun ys => ys.map frOf = frs s.data.toList 0) (fun _ => True) (frs s.data.toList 0).length w := fun l J Jx W hW hJ _ hY h0 =>
  frames1_in n hn l Bn n₀ s hs J Jx W (Nat.le_trans hn₀ hW.size) hT0 hJ hY ((hW.block Bn hBn.lt).trans hBn) (ht.below hW) h0
end Go.Proofs.YtnlcknklghalkaaDoor
