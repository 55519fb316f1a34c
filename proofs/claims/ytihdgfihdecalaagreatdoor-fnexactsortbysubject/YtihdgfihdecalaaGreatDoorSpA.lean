/- Several texts in one. -/
import Derived.Test.YtihdgfihdecalaaGreatDoorProg
import Derived.Test.YtihdgfihdecalaaGreatDoorRowsA
import Derived.RangeFuncNested
import Derived.RangeFuncBox
import Derived.RangeFuncWrites
import Derived.Test.YtihdgfihdecalaaGreatDoorBmA
import Derived.Test.YtihdgfihdecalaaGreatDoorPlainA
import Derived.Test.YtihdgfihdecalaaGreatDoorShelf
import Derived.RangeFuncBound
import Derived.RangeFuncCalls
import Derived.RangeFuncLeaves
import Derived.Shelf.Abstract
import Derived.Shelf.RegionOpen
import Derived.WalkKit
import Derived.OwnWalkIn
import Derived.TacticsInMore
import Derived.LoopNIn
import Derived.LoopIn
import Derived.Maps.AppendAt
namespace Go.Proofs.YtihdgfihdecalaaGreatDoor
open Go.RowKit
set_option linter.unusedVariables false

/-- What an iterator says that writes into its own box, block Bs: whatever the rounds hold on to, and writes into Bs leave as it is. -/
def SeqMoves {α : Type} (n : Nat) (P : Program) (g : Nat) (lb : Array Value) (encs : α → Array Value) (Bs : Nat) (Kp : World → World → Prop) (S Sp : List α → Prop) (N : Nat) (w : World) : Prop :=
  ∀ (l : Nat) (J Jx : List α → World → Prop) (W : World), Below w.heap.size w W → AbidesFrom W.heap.size J → (∀ s A v, J s A → J s (A.setCell ⟨Bs, 0, none⟩ v)) →
    (∀ pre x W1, J pre W1 → pre.length < N → YieldAt Fence.wide (n - 1) P l (encs x) W1 fun e W' => (e = .returned (.bool true) ∧ J (pre ++ [x]) W' ∧ Kp W1 W') ∨ (e = .returned (.bool false) ∧ Jx (pre ++ [x]) W')) →
    J [] W →
    CallsIn Fence.wide n P g (#[.func (.yield l) #[] #[]] ++ lb) W fun e W' => (∃ v, e = .returned v) ∧ ((∃ xs, S xs ∧ J xs W') ∨ (∃ pre, Sp pre ∧ Jx pre W'))

/-- The loop's record, and the block of what is put off. -/
def Marks (l D : Nat) (r : Loop) (W : World) : Prop := W.heap[l]? = some (.loop r) ∧ W.heap[D]? = some (.deferred (some []))
theorem Marks.put {l D : Nat} {r r' : Loop} {W : World} (h : Marks l D r W) (hne : D ≠ l) : Marks l D r' (W.putObj l (.loop r')) :=
  ⟨World.putObj_heap_same (Array.getElem?_eq_some_iff.1 h.1).1, (World.putObj_heap_other hne).trans h.2⟩
theorem Marks.from {l D B : Nat} {r : Loop} {W W' : World} (h : Marks l D r W) (hk : KeepsFrom B W W') (hl : B ≤ l) (hD : B ≤ D) : Marks l D r W' := ⟨hk.same _ _ hl h.1 rfl, hk.same _ _ hD h.2 rfl⟩
theorem Marks.walked {l D : Nat} {r : Loop} {W W' : World} {row : Option Nat} (h : Marks l D r W) (hg : W.grownBy W' row) (hr : ∀ k, row = some k → ∃ o : Obj, W.heap[k]? = some o ∧ o.isWalk = true) : Marks l D r W' :=
  ⟨(grownBy_keeps hg hr h.1 rfl).trans h.1, (grownBy_keeps hg hr h.2 rfl).trans h.2⟩

/-- How the body of a round may be left: it goes on, or it returns. -/
def movesPost {α : Type} (B : Nat) (Kp : World → World → Prop) (I Ix : List α → World → Prop) (xs : List α) (W : World) : Exit → Act → World → Prop
  | .normal, _, W' => KeepsFrom B W W' ∧ Kp W W' ∧ I xs W'
  | .ret, _, W' => KeepsFrom B W W' ∧ Ix xs W'
  | _, _, _ => False

theorem wpIn_range_moves {α : Type} {P : Program} {n : Nat} {g : Operand} {ps : Array Tmp} {assign body : Code} {Q : Exit → Act → World → Prop} {a : Act} {w : World}
    (h1 : 1 ≤ n) {gf : Nat} {lb : Array Value} (hg : a.eval g = .func (.func gf) #[] lb) (eg : ∀ args w, (callFunc gf args).run P w = .ok (.enter gf args) w)
    {encs : α → Array Value} {Bs : Nat} {Kp : World → World → Prop} {S Sp : List α → Prop} {N : Nat} (hseq : SeqMoves (n - 1) P gf lb encs Bs Kp S Sp N w)
    (hKt : ∀ {A B C : World}, Kp A B → Kp B C → Kp A C) (hKb : ∀ (W : World) (l : Nat) (o o' : Obj), w.heap.size ≤ l → W.heap[l]? = some o → o.isCells = false → o.isWalk = false → Kp W (W.putObj l o'))
    (hps : ∀ x, (encs x).size = ps.size)
    (I Ix : List α → World → Prop) (hI : OwnFrom w.heap.size I) (hIx : OwnFrom w.heap.size Ix) (hIs : ∀ s A v, I s A → I s (A.setCell ⟨Bs, 0, none⟩ v)) (h0 : I [] w) (a₁ : α → Act)
    (hassign : ∀ (l : Nat) (x : α) (W : World) (K : Act → World → Prop), K (a₁ x) W →
      assign.wpIn (Fence.wide.inRound l) (n - 1 - 1) P (Exit.then K (fun _ _ _ => False)) { tmps := (ps.zip (encs x)).foldl (fun t (p, v) => t.setIfInBounds p v) a.tmps, defers := [] } W)
    (hbody : ∀ (l : Nat) (pre : List α) (x : α) (W : World), I pre W → pre.length < N → body.wpIn (Fence.wide.inRound l) (n - 1 - 1) P (movesPost w.heap.size Kp I Ix (pre ++ [x]) W) (a₁ x) W)
    (hdone : ∀ (D : Nat) (xs : List α) (W : World), w.heap.size ≤ D → S xs → I xs W → W.heap[D]? = some (.deferred (some [])) → Q .normal { a with defers := { target := .collected D, args := #[] } :: a.defers } W)
    (hstop : ∀ (D : Nat) (pre : List α) (W : World), w.heap.size ≤ D → Sp pre → Ix pre W → W.heap[D]? = some (.deferred (some [])) → Code.ret.wpIn Fence.wide n P Q { a with defers := { target := .collected D, args := #[] } :: a.defers } W) :
    (Code.rangeFunc g ps assign body).wpIn Fence.wide n P Q a w := by
  refine wpIn_rangeFunc (fun fn hfn => ?_)
  obtain ⟨R, hR⟩ : ∃ R : LoopState → Option Code → Loop, R = fun st pe => { state := st, pending := pe, fn, tmps := a.tmps, params := ps, assign, body, defers := w.heap.size } := ⟨_, rfl⟩
  obtain ⟨W1, hW1⟩ : ∃ W1, W1 = (w.alloc (.deferred (some []))).alloc (.loop (R .ready none)) := ⟨_, rfl⟩
  have m1 : Marks (w.heap.size + 1) w.heap.size (R .ready none) W1 := by
    constructor
    · have := World.alloc_heap_new (w.alloc (.deferred (some []))) (.loop (R .ready none))
      rw [World.size_alloc] at this
      rw [hW1]
      exact this
    · rw [hW1]
      exact (Below.heap_alloc _ _ _ (by simp)).trans (World.alloc_heap_new w _)
  have b1 : Below w.heap.size w W1 := by rw [hW1]; exact ((Below.refl _ w).alloc (Nat.le_refl _) _).alloc (by simp) _
  have z1 : W1.heap.size = w.heap.size + 2 := by rw [hW1]; simp
  have i1 : I [] W1 := by rw [hW1]; exact hI.alloc _ (hI.alloc _ h0)
  refine ⟨w.heap.size + 1, [{ target := .collected w.heap.size, args := #[] }], W1, { target := .fn (.func gf) lb, args := #[.func (.yield (w.heap.size + 1)) #[] #[]] }, W1, gf,
    #[.func (.yield (w.heap.size + 1)) #[] #[]] ++ lb, W1, ?_, ?_, fun _ _ => trivial, ?_, fun _ => h1, ?_⟩
  · rw [hW1, hR]
    exact run_enterLoop_outer _ _ _ _ _
  · simp only [resolve, hg]
    simp [go_sem]
  · simp [invoke, go_sem, eg]
  have turn : ∀ {A B : World} {row : Option Nat}, (∀ r, row = some r → W1.heap.size ≤ r ∧ ∃ o : Obj, A.heap[r]? = some o ∧ o.isWalk = true) → ∀ r, row = some r → w.heap.size ≤ r ∧ ∃ o : Obj, A.heap[r]? = some o ∧ o.isCells = false := by
    intro A B row hr r e
    obtain ⟨hB, o, ho, hw⟩ := hr r e
    exact ⟨by omega, o, ho, Obj.not_cells_of_walk hw⟩
  -- the iterator is called with what the rounds hold on to
  refine (hseq (w.heap.size + 1) (fun pre W => I pre W ∧ Marks (w.heap.size + 1) w.heap.size (R .ready none) W) (fun pre W => Ix pre W ∧ Marks (w.heap.size + 1) w.heap.size (R .done (some .ret)) W) W1 b1
    (fun s A B row hs hg' hr => ⟨hI s A B row hs.1 hg' (turn (B := B) hr), hs.2.walked hg' (fun k e => (hr k e).2)⟩)
    (fun s A v hs => ⟨hIs s A v hs.1, (KeepsOthers.setCell A _ v).same _ _ hs.2.1 rfl, (KeepsOthers.setCell A _ v).same _ _ hs.2.2 rfl⟩) ?_ ⟨i1, m1⟩).mono ?_
  · -- a round
    rintro pre x W ⟨hi, hm⟩ hlen
    have hy := run_yield (P := P) (args := encs x) hm.1 (by rw [hR]; exact hps x)
    rw [hR] at hy
    have hm2 : Marks (w.heap.size + 1) w.heap.size { R .ready none with state := .busy } (W.putObj (w.heap.size + 1) (.loop { R .ready none with state := .busy })) := hm.put (by omega)
    have hk2 : Kp W (W.putObj (w.heap.size + 1) (.loop { R .ready none with state := .busy })) := hKb _ _ _ _ (by omega) hm.1 rfl rfl
    have hi2 : I pre (W.putObj (w.heap.size + 1) (.loop { R .ready none with state := .busy })) := hI.putObj _ hi (by omega) hm.1 rfl
    refine ⟨fn, _, assign, body, hy, roundIn_of_wpIn hfn (hassign _ x W _ ⟨_, run_beginRound hm.1 (by rw [hR]), ?_⟩)⟩
    generalize W.putObj (w.heap.size + 1) (.loop { R .ready none with state := .busy }) = W2 at *
    refine wpIn_mono (hbody _ pre x W2 hi2 hlen) ?_
    rintro e a3 W3 hp
    cases e with
    | normal =>
      obtain ⟨k3, kp3, i3⟩ := hp
      have m3 := hm2.from k3 (by omega) (Nat.le_refl _)
      refine ⟨_, _, run_endRound (P := P) none m3.1, .inl ⟨rfl, ⟨hI.putObj _ i3 (by omega) m3.1 rfl, ?_⟩, hKt (hKt hk2 kp3) (hKb _ _ _ _ (by omega) m3.1 rfl rfl)⟩⟩
      have := m3.put (r' := R .ready none) (by omega)
      rw [hR] at this ⊢
      exact this
    | ret =>
      obtain ⟨k3, i3⟩ := hp
      have m3 := hm2.from k3 (by omega) (Nat.le_refl _)
      refine ⟨_, _, run_endRound (P := P) (some .ret) m3.1, .inr ⟨rfl, hIx.putObj _ i3 (by omega) m3.1 rfl, ?_⟩⟩
      have := m3.put (r' := R .done (some .ret)) (by omega)
      rw [hR] at this ⊢
      exact this
    | exit id => exact hp.elim
    | goto t => exact hp.elim
    | panic ch => exact hp.elim
    | outgrown => exact hp.elim
  · -- behind the iterator
    rintro e W2 ⟨⟨v, rfl⟩, (⟨xs, hS, hi, hm⟩ | ⟨pre, hSp, hi, hm⟩)⟩
    · refine ⟨none, _, ?_, hdone _ xs _ (Nat.le_refl _) hS (hI.putObj (.loop { R .ready none with state := .exhausted }) hi (by omega) hm.1 rfl) ((World.putObj_heap_other (by omega)).trans hm.2)⟩
      have := run_endLoop (P := P) hm.1 (by rw [hR]; simp)
      rw [hR] at this ⊢
      exact this
    · refine ⟨some .ret, _, ?_, hstop _ pre _ (Nat.le_refl _) hSp (hIx.putObj (.loop { R .done (some .ret) with state := .exhausted }) hi (by omega) hm.1 rfl) ((World.putObj_heap_other (by omega)).trans hm.2)⟩
      have := run_endLoop (P := P) hm.1 (by rw [hR]; simp)
      rw [hR] at this ⊢
      exact this
end Go.Proofs.YtihdgfihdecalaaGreatDoor

namespace Go.Proofs.YtihdgfihdecalaaGreatDoor
open Go.RowKit Go.Shelf
open Plain
set_option linter.unusedVariables false

attribute [local go_sem] Oper.semAt_some

/-- What a round is handed: a part of the text. -/
abbrev Pt := { x : ByteArray // x.size ≤ 1048576 }
def ptOf (x : Pt) : List UInt8 := x.1.data.toList
abbrev ptEnc (x : Pt) : Array Value := #[.string x.1]

/-- What a round keeps: all that lay ahead, and the iterator's three boxes. -/
def KpS (n₀ B : Nat) (W W' : World) : Prop := Below n₀ W W' ∧ ∀ k, B ≤ k → k < B + 3 → W'.heap[k]? = W.heap[k]?
theorem KpS.t {n₀ B : Nat} {X Y Z : World} (h : KpS n₀ B X Y) (k : KpS n₀ B Y Z) : KpS n₀ B X Z := ⟨h.1.trans k.1, fun i h1 h2 => (k.2 i h1 h2).trans (h.2 i h1 h2)⟩
theorem KpS.b {n₀ B : Nat} {w : World} (hn : n₀ ≤ w.heap.size) (hB : B + 3 ≤ w.heap.size) (W : World) (l : Nat) (o o' : Obj) (hl : w.heap.size ≤ l) (h : W.heap[l]? = some o) (ho : o.isCells = false) (hw : o.isWalk = false) : KpS n₀ B W (W.putObj l o') :=
  ⟨belowK_b hn W l o o' hl h ho hw, fun k h1 h2 => World.putObj_heap_other (by omega)⟩

/-- The three boxes: what is left of the text, the byte, none of it kept. -/
def SpBox (c : UInt8) (B : Nat) (W : World) (s : ByteArray) : Prop := Boxed W B 9 (.string s) ∧ Boxed W (B + 1) 9 (.string ⟨#[c]⟩) ∧ Boxed W (B + 2) 3 (.int .i64 0)
theorem SpBox.keep {c : UInt8} {B : Nat} {W W' : World} {s : ByteArray} (h : SpBox c B W s) (hk : ∀ k, B ≤ k → k < B + 3 → W'.heap[k]? = W.heap[k]?) : SpBox c B W' s :=
  ⟨(hk B (by omega) (by omega)).trans h.1, (hk (B + 1) (by omega) (by omega)).trans h.2.1, (hk (B + 2) (by omega) (by omega)).trans h.2.2⟩
theorem SpBox.moved {c : UInt8} {B : Nat} {W : World} {s t : ByteArray} (h : SpBox c B W s) : SpBox c B (W.setCell ⟨B, 0, none⟩ (.string t)) t := by
  refine ⟨?_, h.2.1.other (by omega) _, h.2.2.other (by omega) _⟩
  have h1 : W.heap[B]? = some (.cells #[.string s] 9 (0, 0)) := h.1
  show (W.setCell ⟨B, 0, none⟩ (.string t)).heap[B]? = some (.cells #[.string t] 9 (0, 0))
  simp [World.setCell, h1, Array.getElem?_modify]
def leftV (v : Value) : Nat := match v with
  | .string s => s.size + 1
  | _ => 0
def leftS (B : Nat) (W : World) : Nat := match W.cell? ⟨B, 0, none⟩ with
  | some v => leftV v
  | none => 0
theorem SpBox.left {c : UInt8} {B : Nat} {W : World} {s : ByteArray} (h : SpBox c B W s) : leftS B W = s.size + 1 := by
  unfold leftS
  rw [h.1.cell]
  rfl
namespace Plain
theorem extract_to (s : ByteArray) (i : Nat) : (s.extract 0 i).data.toList = s.data.toList.take i := by simp
theorem extract_from (s : ByteArray) (i : Nat) : (s.extract i s.size).data.toList = s.data.toList.drop i := by
  rw [ByteArray.data_extract, Array.toList_extract]
  show (s.data.toList.drop i).take (s.data.size - i) = _
  rw [List.take_of_length_le (by simp)]
theorem cuts_pos (c : UInt8) (l : List UInt8) : 1 ≤ (cutsL c l).length := by
  cases l with
  | nil => simp [cutsL]
  | cons b r =>
    rw [cutsL]
    split
    · simp
    · split <;> simp
theorem no_comma {l : List UInt8} {c : UInt8} (h : ∀ k : Nat, l[k]? ≠ some c) : ∀ b ∈ l, b ≠ c := by
  intro b hb e
  obtain ⟨k, hk, rfl⟩ := List.getElem_of_mem hb
  exact h k (by rw [List.getElem?_eq_getElem hk, e])
theorem no_comma_to {l : List UInt8} {c : UInt8} {i : Nat} (h : ∀ k, k < i → l[k]? ≠ some c) : ∀ b ∈ l.take i, b ≠ c := by
  intro b hb e
  obtain ⟨k, hk, rfl⟩ := List.getElem_of_mem hb
  have hk2 : k < i := by have := hk; simp at this; omega
  have hk3 : k < l.length := by have := hk; simp at this; omega
  refine h k hk2 ?_
  rw [List.getElem_take] at e
  rw [List.getElem?_eq_getElem hk3, e]
theorem cuts_here {l : List UInt8} {c : UInt8} {i : Nat} (h1 : ∀ k, k < i → l[k]? ≠ some c) (h2 : l[i]? = some c) : cutsL c l = l.take i :: cutsL c (l.drop (i + 1)) := by
  have hi : i < l.length := (List.getElem?_eq_some_iff.1 h2).1
  have e : l = l.take i ++ c :: l.drop (i + 1) := by
    have h3 : l[i] = c := (List.getElem?_eq_some_iff.1 h2).2
    rw [← h3, List.getElem_cons_drop hi, List.take_append_drop]
  have := cuts_at (c := c) (l.take i) (l.drop (i + 1)) (no_comma_to h1)
  rw [← e] at this
  exact this
end Plain

set_option maxRecDepth 100000 in
set_option maxHeartbeats 4000000 in
theorem split1_in (c : UInt8) (n : Nat) (hn : 1 ≤ n) (l B n₀ : Nat) (t : ByteArray) (ht : t.size ≤ 1048576) (J Jx : List Pt → World → Prop) (W : World)
    (hSt : ∀ s A v, J s A → J s (A.setCell ⟨B, 0, none⟩ v))
    (hY : ∀ pre x W1, J pre W1 → pre.length < (cutsL c t.data.toList).length → YieldAt Fence.wide (n - 1) Tryz.prog l (ptEnc x) W1 fun e W' =>
      (e = .returned (.bool true) ∧ J (pre ++ [x]) W' ∧ KpS n₀ B W1 W') ∨ (e = .returned (.bool false) ∧ Jx (pre ++ [x]) W'))
    (hB : SpBox c B W t) (h0 : J [] W) :
    CallsIn Fence.wide n Tryz.prog 141 #[.func (.yield l) #[] #[], .pointer (some ⟨B + 1, 0, none⟩), .pointer (some ⟨B, 0, none⟩), .pointer (some ⟨B + 2, 0, none⟩)] W fun e W' => (∃ v, e = .returned v) ∧
      ((∃ ys, ys.map ptOf = cutsL c t.data.toList ∧ J ys W') ∨ (∃ pre, (pre.map ptOf <+: cutsL c t.data.toList) ∧ Jx pre W')) := by
  have HY := hide hY
  have HS := hide hSt
  have c1 := hB.2.1.cell
  have HB := hide hB
  have H0 := hide h0
  clear hY hSt hB h0
  refine callsIn_of_wp Tryz.func141 rfl trivial ?_ rfl
  simp only [Tryz.ntmps141, List.size_toArray, List.length_cons, List.length_nil, Nat.reduceAdd, Nat.reduceSub, Array.replicate_succ, Array.replicate_zero, List.push_toArray, List.append_toArray, List.nil_append, List.cons_append]
  gi_wp2
  gi_loopw [7] (fun _ wr => ∃ (pre : List Pt) (s : ByteArray), s.size ≤ t.size ∧ pre.map ptOf ++ cutsL c s.data.toList = cutsL c t.data.toList ∧ SpBox c B wr s ∧ J pre wr)
    (fun _ wr => leftS B wr)
  case atStart => exact ⟨[], t, Nat.le_refl _, rfl, unhide HB, unhide H0⟩
  case round =>
    obtain ⟨pre, s, hsz, hcut, hbx, hj⟩ := hrel
    clear c1
    have c0 := hbx.1.cell
    have c1 := hbx.2.1.cell
    have c2 := hbx.2.2.cell
    have z0 := hbx.1.frozen
    have hlen : pre.length < (cutsL c t.data.toList).length := by
      have := congrArg List.length hcut
      have h2 := cuts_pos c s.data.toList
      simp at this
      omega
    have IX := hide (fun W => Tryz.strings_Index_one s c W)
    have hge := Lib.indexByte_ge s.data.toList c
    have LM := hide hbx.left
    by_cases h : Lib.indexByte s.data.toList c = -1
    · have CO := hide (cuts_one (c := c) s.data.toList (no_comma (fun k => Lib.indexByte_none h k)))
      obtain ⟨fn, tmps, assign, body, hy, hR⟩ := unhide HY pre ⟨s, by omega⟩ wr hj hlen
      dsimp only [ptEnc] at hy
      have HR := hide hR
      have HC := hide hcut
      rw [h] at IX
      clear h hge hR hcut hj hbx
      gi_wp2_with (refine ⟨trivial, ?_⟩; gi_at_call 143; refine (callsIn_wide.2 (unhide IX _)).mono ?_; rintro e w1 ⟨rfl, hw⟩; subst w1)
      refine (unhide HR).mono ?_
      rintro e' W3 (⟨rfl, hJ3, hk3⟩ | ⟨rfl, hJx3⟩)
      · have JJ := hide hJ3
        clear hJ3 hk3
        gi_wp2
        go_end0
        refine ⟨⟨_, rfl⟩, .inl ⟨_, ?_, unhide JJ⟩⟩
        rw [List.map_append, ← unhide HC, unhide CO]
        rfl
      · have JJ := hide hJx3
        clear hJx3
        gi_wp2
        go_end0
        refine ⟨⟨_, rfl⟩, .inr ⟨_, ?_, unhide JJ⟩⟩
        rw [List.map_append, ← unhide HC, unhide CO]
        exact List.prefix_refl _
    · obtain ⟨o, ho⟩ : ∃ o : Nat, Lib.indexByte s.data.toList c = o := ⟨(Lib.indexByte s.data.toList c).toNat, by omega⟩
      have SM := Lib.indexByte_some ho
      have hlt : o < s.size := (List.getElem?_eq_some_iff.1 SM.1).1
      have CH := hide (cuts_here SM.2 SM.1)
      obtain ⟨fn, tmps, assign, body, hy, hR⟩ := unhide HY pre ⟨s.extract 0 o, by simp; omega⟩ wr hj hlen
      dsimp only [ptEnc] at hy
      have HR := hide hR
      have HC := hide hcut
      have HX := hide hbx
      rw [ho] at IX
      have i1 : (0 : Int) ≤ (o : Int) := by omega
      have i2 : (o : Int) ≤ (s.size : Int) := by omega
      have i3 : IntKind.i64.wrap ((o : Int) + 1) = (o : Int) + 1 := by rw [IntKind.wrap_i64]; omega
      have i4 : (0 : Int) ≤ (o : Int) + 1 := by omega
      have i5 : (o : Int) + 1 ≤ (s.size : Int) := by omega
      clear h hge ho SM hR hcut hj hbx
      gi_wp2_with (refine ⟨trivial, ?_⟩; gi_at_call 143; refine (callsIn_wide.2 (unhide IX _)).mono ?_; rintro e w1 ⟨rfl, hw⟩; subst w1)
      refine (unhide HR).mono ?_
      rintro e' W3 (⟨rfl, hJ3, hk3⟩ | ⟨rfl, hJx3⟩)
      · have hb3 := (unhide HX).keep hk3.2
        have d0 := hb3.1.cell
        have d1 := hb3.2.1.cell
        have d2 := hb3.1.frozen
        have J4 := hide (unhide HS _ W3 (.string (s.extract (o + 1) s.size)) hJ3)
        have B4 := hide (hb3.moved (t := s.extract (o + 1) s.size))
        clear hJ3 hk3 hb3 HR HX hy
        gi_wp2
        go_roundw
        case rel =>
          refine ⟨_, _, ?_, ?_, unhide B4, unhide J4⟩
          · simp; omega
          · rw [← unhide HC, unhide CH, List.map_append, List.append_assoc, extract_from]
            show _ ++ ([ptOf _] ++ _) = _
            unfold ptOf
            simp only
            rw [extract_to]
            rfl
        case measure =>
          show leftS B (W3.setCell ⟨B, 0, none⟩ (.string (s.extract (o + 1) s.size))) < leftS B wr
          rw [(unhide B4).left, unhide LM]
          simp
          omega
      · have JJ := hide hJx3
        clear hJx3
        gi_wp2
        refine bodyPost_ret (results_none rfl _ _ _) rfl ?_
        refine ⟨⟨_, rfl⟩, .inr ⟨_, ?_, unhide JJ⟩⟩
        rw [← unhide HC, unhide CH, List.map_append]
        refine ⟨cutsL c (s.data.toList.drop (o + 1)), ?_⟩
        rw [List.append_assoc]
        show _ ++ ([ptOf _] ++ _) = _
        unfold ptOf
        simp only
        rw [extract_to]
        rfl

theorem split_moves (c : UInt8) (n : Nat) (hn : 1 ≤ n) (B n₀ : Nat) (t : ByteArray) (ht : t.size ≤ 1048576) (w : World) (hB : SpBox c B w t) (hlt : B + 3 ≤ w.heap.size) :
    SeqMoves n Tryz.prog 141 #[.pointer (some ⟨B + 1, 0, none⟩), .pointer (some ⟨B, 0, none⟩), .pointer (some ⟨B + 2, 0, none⟩)] ptEnc B (KpS n₀ B) (fun ys => ys.map ptOf = cutsL c t.data.toList) (fun pre => pre.map ptOf <+: cutsL c t.data.toList) (cutsL c t.data.toList).length w := fun l J Jx W hW hJ hSt hY h0 =>
  split1_in c n hn l B n₀ t ht J Jx W hSt hY (hB.keep (fun k h1 h2 => hW.block k (by omega))) h0

set_option maxHeartbeats 1000000 in
theorem splitSeq_in (c : UInt8) (n : Nat) (s : ByteArray) (w : World) :
    CallsIn Fence.wide n Tryz.prog 128 #[.string s, .string ⟨#[c]⟩, .int .i64 0] w fun e w' => e = .returned (.func (.func 141) #[] #[.pointer (some ⟨w.heap.size + 1, 0, none⟩), .pointer (some ⟨w.heap.size, 0, none⟩), .pointer (some ⟨w.heap.size + 2, 0, none⟩)]) ∧ SpBox c w.heap.size w' s ∧ w'.heap.size = w.heap.size + 3 ∧ Below w.heap.size w w' ∧ KeepsOthers w w' := by
  refine callsIn_of_wp Tryz.func128 rfl trivial ?_ rfl
  simp only [Tryz.ntmps128, List.size_toArray, List.length_cons, List.length_nil, Nat.reduceAdd, Nat.reduceSub, Array.replicate_succ, Array.replicate_zero, List.push_toArray, List.append_toArray, List.nil_append, List.cons_append]
  gi_wp2
  go_ret
  have n0 := Boxed.new w 9 (.string s)
  have n1 := Boxed.new (w.alloc (.cells #[.string s] 9)) 9 (.string ⟨#[c]⟩)
  have n2 := Boxed.new ((w.alloc (.cells #[.string s] 9)).alloc (.cells #[.string ⟨#[c]⟩] 9)) 3 (.int .i64 0)
  rw [World.size_alloc] at n1
  rw [World.size_alloc, World.size_alloc] at n2
  refine ⟨rfl, ⟨(n0.alloc _).alloc _, n1.alloc _, n2⟩, by simp, (((Below.refl _ _).alloc (Nat.le_refl _) _).alloc (by simp) _).alloc (by simp; omega) _, ((KeepsOthers.alloc _ _).trans (KeepsOthers.alloc _ _)).trans (KeepsOthers.alloc _ _)⟩

set_option maxHeartbeats 1000000 in
theorem SplitSeq_in (c : UInt8) (n : Nat) (s : ByteArray) (w : World) :
    CallsIn Fence.wide n Tryz.prog 111 #[.string s, .string ⟨#[c]⟩] w fun e w' => e = .returned (.func (.func 141) #[] #[.pointer (some ⟨w.heap.size + 1, 0, none⟩), .pointer (some ⟨w.heap.size, 0, none⟩), .pointer (some ⟨w.heap.size + 2, 0, none⟩)]) ∧ SpBox c w.heap.size w' s ∧ w'.heap.size = w.heap.size + 3 ∧ Below w.heap.size w w' ∧ KeepsOthers w w' := by
  refine callsIn_of_wp Tryz.func111 rfl trivial ?_ rfl
  simp only [Tryz.ntmps111, List.size_toArray, List.length_cons, List.length_nil, Nat.reduceAdd, Nat.reduceSub, Array.replicate_succ, Array.replicate_zero, List.push_toArray, List.append_toArray, List.nil_append, List.cons_append]
  gi_wp2
  refine ⟨trivial, fun h => (by cases h), (splitSeq_in c _ s _).mono ?_⟩
  rintro e w1 ⟨rfl, h1, h2, h3, h4⟩
  gi_wp2
  go_ret
  exact ⟨rfl, h1, h2, h3, h4⟩
end Go.Proofs.YtihdgfihdecalaaGreatDoor
