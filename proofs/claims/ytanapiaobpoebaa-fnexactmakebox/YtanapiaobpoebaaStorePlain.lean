/- Stores, plainly: when one is right; what the functions of chapter 9 answer. -/
import Derived.Test.YtanapiaobpoebaaStoreRow
import Derived.Test.YtanapiaobpoebaaBoxP
import Derived.Test.YtanapiaobpoebaaActPlain
namespace Go.Proofs.Ytanapiaobpoebaa
open Go.RowKit
open Plain
set_option linter.unusedVariables false

namespace Plain
structure FitSt (s : Sx) : Prop where
 len : s.boxes.length ≤ 1048577
 each : ∀ b ∈ s.boxes, FitBx b
/-- The box at a place is right, and behind the one ahead of it. -/
def okB (s : Sx) (i : Nat) : Bool := match s.boxes[i]? with
 | none => true
 | some b => boxOk b && decide (b.valid < s.valid) && (i == 0 || match s.boxes[i - 1]? with
  | none => true
  | some p => ltB p.name b.name)
def okTo (s : Sx) (k : Nat) : Bool := (List.range k).all (okB s)
def storeOk (s : Sx) : Bool := okTo s s.boxes.length && inI (s.boxes.length : Int) 1 4 && inI s.valid 2 9999
theorem okTo_zero (s : Sx) : okTo s 0 = true := rfl
theorem okTo_succ (s : Sx) (k : Nat) : okTo s (k + 1) = (okTo s k && okB s k) := by simp [okTo, List.range_succ]
theorem okTo_no {s : Sx} {k n : Nat} (hk : k < n) (h : okB s k = false) : okTo s n = false := by
 unfold okTo
 rw [List.all_eq_false]
 exact ⟨k, List.mem_range.2 hk, by rw [h]; decide⟩
theorem storeOk_no {s : Sx} {k : Nat} (hk : k < s.boxes.length) (h : okB s k = false) : storeOk s = false := by unfold storeOk; rw [okTo_no hk h]; rfl
theorem okB_first {s : Sx} {b : Bx} (h : s.boxes[0]? = some b) : okB s 0 = (boxOk b && decide (b.valid < s.valid)) := by simp only [okB, h, beq_self_eq_true, Bool.true_or, Bool.and_true]
theorem okB_next {s : Sx} {k : Nat} {b p : Bx} (h : s.boxes[k + 1]? = some b) (hp : s.boxes[k]? = some p) : okB s (k + 1) = (boxOk b && decide (b.valid < s.valid) && ltB p.name b.name) := by
 simp only [okB, h, Nat.add_sub_cancel, hp]
 rfl
theorem okB_box {s : Sx} {k : Nat} {b : Bx} (h : s.boxes[k]? = some b) (hb : boxOk b = false) : okB s k = false := by simp only [okB, h, hb, Bool.false_and]
theorem okB_valid {s : Sx} {k : Nat} {b : Bx} (h : s.boxes[k]? = some b) (hb : ¬ b.valid < s.valid) : okB s k = false := by simp only [okB, h, decide_eq_false hb, Bool.and_false, Bool.false_and]
/-- A right store, in other words. -/
structure RightSt (s : Sx) : Prop where
 each : ∀ b ∈ s.boxes, boxOk b = true ∧ b.valid < s.valid
 asc : s.boxes.Pairwise fun p b => ltB p.name b.name = true
 one : 1 ≤ s.boxes.length
 four : s.boxes.length ≤ 4
 v1 : 2 ≤ s.valid
 v2 : s.valid ≤ 9999
theorem asc_pairs : ∀ (l : List Bx), (∀ k b p, l[k + 1]? = some b → l[k]? = some p → ltB p.name b.name = true) → l.Pairwise fun p b => ltB p.name b.name = true := by
 intro l
 induction l with
 | nil => intro _; exact List.Pairwise.nil
 | cons x l ih =>
  intro h
  have ht := ih (fun k b p h1 h2 => h (k + 1) b p (by simpa using h1) (by simpa using h2))
  refine List.pairwise_cons.2 ⟨?_, ht⟩
  cases l with
  | nil => intro b hb; cases hb
  | cons y l =>
   have h0 := h 0 y x rfl rfl
   intro b hb
   rcases List.mem_cons.1 hb with rfl | hb
   ·exact h0
   ·exact ltB_trans h0 ((List.pairwise_cons.1 ht).1 b hb)
theorem right_st {s : Sx} (h : storeOk s = true) : RightSt s := by
 unfold storeOk at h
 rw [Bool.and_eq_true, Bool.and_eq_true, inI_iff, inI_iff] at h
 obtain ⟨⟨h1, h2⟩, h3⟩ := h
 have hall : ∀ k, k < s.boxes.length → okB s k = true := fun k hk => List.all_eq_true.1 h1 k (List.mem_range.2 hk)
 refine ⟨fun b hb => ?_, asc_pairs _ (fun k b p hb hp => ?_), by omega, by omega, h3.1, h3.2⟩
 ·obtain ⟨k, hk, rfl⟩ := List.mem_iff_getElem.1 hb
  have := hall k hk
  unfold okB at this
  rw [List.getElem?_eq_getElem hk] at this
  simp only [Bool.and_eq_true, decide_eq_true_eq] at this
  exact this.1
 ·have := hall (k + 1) (List.getElem?_eq_some_iff.1 hb).1
  rw [okB_next hb hp] at this
  simp only [Bool.and_eq_true] at this
  exact this.2
/-- A box of that name. -/
def sameN (n : ByteArray) (b : Bx) : Bool := b.name.toList == n.toList
theorem sameN_iff {n : ByteArray} {b : Bx} : sameN n b = true ↔ b.name = n := same_iff
def boxAt (s : Sx) (n : ByteArray) : Option Bx := s.boxes.find? (sameN n)
theorem boxAt_first {s : Sx} {n : ByteArray} {k : Nat} {b : Bx} (h : s.boxes[k]? = some b) (hs : sameN n b = true) (hn : ∀ y ∈ s.boxes.take k, sameN n y = false) : boxAt s n = some b := by
 unfold boxAt
 rw [← List.take_append_drop k s.boxes, List.find?_append, List.find?_eq_none.2 (fun y hy => by rw [hn y hy]; decide), Option.none_or]
 obtain ⟨hk, rfl⟩ := List.getElem?_eq_some_iff.1 h
 rw [List.drop_eq_getElem_cons hk, List.find?_cons_of_pos hs]
theorem boxAt_none {s : Sx} {n : ByteArray} (hn : ∀ y ∈ s.boxes, sameN n y = false) : boxAt s n = none := List.find?_eq_none.2 (fun y hy => by rw [hn y hy]; decide)
theorem none_more {l : List Bx} {n : ByteArray} {k : Nat} {b : Bx} (h : l[k]? = some b) (hs : sameN n b = false) (hn : ∀ y ∈ l.take k, sameN n y = false) : ∀ y ∈ l.take (k + 1), sameN n y = false := by
 intro y hy
 rw [List.take_add_one, h] at hy
 rcases List.mem_append.1 hy with hy | hy
 ·exact hn y hy
 ·simp at hy; subst hy; exact hs
/-- What BoxAt answers. -/
def atV (s : Sx) (n : ByteArray) : Bx × Bool := match boxAt s n with
 | some b => (b, true)
 | none => (bx0, false)
theorem atV_some {s : Sx} {n : ByteArray} {b : Bx} (h : boxAt s n = some b) : atV s n = (b, true) := by unfold atV; rw [h]
theorem atV_none {s : Sx} {n : ByteArray} (h : boxAt s n = none) : atV s n = (bx0, false) := by unfold atV; rw [h]
end Plain
/-- A store of one's own. -/
def OwnSt (B : Nat) (w : World) (v : Value) (l : List Bx) : Prop := ∃ L : List Lb, L.map (·.b) = l ∧ OwnBs B w v L ∧ L.Pairwise ApartB
/-- A store that is read: its boxes may have rows in common. -/
def ReadSt (B : Nat) (w : World) (v : Value) (l : List Bx) : Prop := ∃ L : List Lb, L.map (·.b) = l ∧ OwnBs B w v L
theorem OwnSt.read {B : Nat} {w : World} {v : Value} {l : List Bx} (h : OwnSt B w v l) : ReadSt B w v l := by obtain ⟨L, h1, h2, _⟩ := h; exact ⟨L, h1, h2⟩
theorem OwnSt.up {B : Nat} {w w' : World} {v : Value} {l : List Bx} (h : OwnSt B w v l) (hb : Below w.heap.size w w') : OwnSt B w' v l := by obtain ⟨L, h1, h2, h3⟩ := h; exact ⟨L, h1, h2.up hb, h3⟩
theorem ReadSt.up {B : Nat} {w w' : World} {v : Value} {l : List Bx} (h : ReadSt B w v l) (hb : Below w.heap.size w w') : ReadSt B w' v l := by obtain ⟨L, h1, h2⟩ := h; exact ⟨L, h1, h2.up hb⟩
theorem OwnSt.drew {B : Nat} {w : World} {v : Value} {l : List Bx} (h : OwnSt B w v l) : OwnSt B w.drew v l := by obtain ⟨L, h1, h2, h3⟩ := h; exact ⟨L, h1, h2.drew, h3⟩
theorem ReadSt.drew {B : Nat} {w : World} {v : Value} {l : List Bx} (h : ReadSt B w v l) : ReadSt B w.drew v l := by obtain ⟨L, h1, h2⟩ := h; exact ⟨L, h1, h2.drew⟩
theorem OwnSt.based {B B' : Nat} {w : World} {v : Value} {l : List Bx} (h : OwnSt B w v l) (hB : B' ≤ B) : OwnSt B' w v l := by obtain ⟨L, h1, h2, h3⟩ := h; exact ⟨L, h1, h2.based hB, h3⟩
theorem OwnSt.shape {B : Nat} {w : World} {v : Value} {l : List Bx} (h : OwnSt B w v l) : ∃ a c, v = .slice a l.length c := by
 obtain ⟨L, h1, h2, _⟩ := h
 obtain ⟨a, c, e⟩ := g_shape h2.row
 exact ⟨a, c, by rw [e, ← h1, List.length_map]⟩
theorem ReadSt.shape {B : Nat} {w : World} {v : Value} {l : List Bx} (h : ReadSt B w v l) : ∃ a c, v = .slice a l.length c := by
 obtain ⟨L, h1, h2⟩ := h
 obtain ⟨a, c, e⟩ := g_shape h2.row
 exact ⟨a, c, by rw [e, ← h1, List.length_map]⟩
end Go.Proofs.Ytanapiaobpoebaa
