/- Several texts in one: Own, RowK, ObjK, RowAppend, ObjFill. Made by fuse_tl.py. -/
import Derived.Test.YtihdgfihdecalaaGreatDoorPlainA
import Derived.WalkKit
import Derived.WalkSpells
import Derived.ProofKit
import Derived.Handy
import Derived.Laws.OwnMore
import Derived.OwnWalk
import Derived.RangeFuncBox
import Derived.Deep.Slices
import Derived.Laws.AppendOwn
/- Rows of one's own, boxes, and what is below: general facts, under names of their own. -/
namespace Go.Proofs.YtihdgfihdecalaaGreatDoor
open Go.RowKit
open Plain
set_option linter.unusedVariables false

theorem g_add (x : Addr) (j : Nat) : (x.add j).block = x.block := by unfold Addr.add; split <;> rfl
theorem g_grown {w w1 : World} (h : Below w.heap.size w w1) (row : Option Nat) : w.grownBy w1 row := ⟨h.os, h.tape, h.output, h.size, fun k hk _ => h.block k hk⟩
theorem g_below {w w1 : World} (h : w.grownBy w1 none) : Below w.heap.size w w1 := ⟨h.os, h.tape, h.output, h.size, fun k hk => h.block k hk (by simp)⟩
theorem g_self (w : World) (row : Option Nat) : w.grownBy w row := ⟨rfl, rfl, rfl, Nat.le_refl _, fun _ _ _ => rfl⟩
theorem g_then {w w1 w2 : World} {row : Option Nat} (h : w.grownBy w1 row) (hb : Below w1.heap.size w1 w2) : w.grownBy w2 row :=
  ⟨hb.os.trans h.os, hb.tape.trans h.tape, hb.output.trans h.output, Nat.le_trans h.size hb.size, fun k hk hne => (hb.block k (Nat.lt_of_lt_of_le hk h.size)).trans (h.block k hk hne)⟩
theorem g_store {w w1 : World} {g j : Nat} (h : w.grownBy w1 (some g)) (u : Value) : w.grownBy (w1.setCell ⟨g, j, none⟩ u) (some g) :=
  ⟨h.os, h.tape, h.output, by simpa using h.size, fun k hk hne => (Below.heap_setCell _ _ _ k (fun e => hne (by rw [e]))).trans (h.block k hk hne)⟩
theorem g_stays {w w1 : World} {B n : Nat} {e : TypeId} {size : Nat} {v : Value} {xs : List Value} (h : w.ownsRow B e size v n xs) (hb : Below w.heap.size w w1) : w1.ownsRow B e size v n xs :=
  h.kept (g_grown hb none) (Classical.em _)
theorem g_based {w : World} {B B' n : Nat} {e : TypeId} {size : Nat} {v : Value} {xs : List Value} (h : w.ownsRow B e size v n xs) (hB : B' ≤ B) : w.ownsRow B' e size v n xs := by
  refine ⟨h.1, ?_⟩
  rcases h.2 with h2 | ⟨g, cap, cur, h1, h2, h3⟩
  · exact .inl h2
  · exact .inr ⟨g, cap, cur, h1, by omega, h3⟩
theorem g_shape {w : World} {B n m : Nat} {e : TypeId} {v : Value} {xs : List Value} (h : w.ownsRow B e m v n xs) : ∃ a c, v = .slice a n c := by
  rcases h.2 with ⟨h, h0⟩ | ⟨_, _, _, h, _⟩
  · exact ⟨none, 0, by rw [h0]; exact h⟩
  · exact ⟨_, _, h⟩
/-- A row of one's own stays when another block is written. -/
theorem g_aside {w w1 : World} {B n m : Nat} {e : TypeId} {v : Value} {xs : List Value} {row : Option Nat} (h : w.ownsRow B e m v n xs) (hg : w.grownBy w1 row) (hne : ∀ k, row = some k → v.ownBlock ≠ some k) : w1.ownsRow B e m v n xs := by
  refine h.kept hg ?_
  cases hv : v.ownBlock with
  | none => exact .inl rfl
  | some b => exact .inr fun e => hne b e.symm hv
theorem g_cell {w w' : World} {p : Addr} {v : Value} (hb : Below w.heap.size w w') (h : w.cell? p = some v) : w'.cell? p = some v := (hb.cell (World.block_lt_of_cell? w p h)).trans h
theorem g_some {w : World} {B g n cap m : Nat} {e : TypeId} {xs : List Value} (h : w.ownsRow B e m (.slice (some ⟨g, 0, none⟩) n cap) n xs) {j : Nat} (hj : j < n * m) : ∃ y, w.cell? ⟨g, j, none⟩ = some y := by
  rw [h.cellAt j (by simpa using hj)]
  exact ⟨_, List.getElem?_eq_getElem (by rw [h.1]; exact hj)⟩
end Go.Proofs.YtihdgfihdecalaaGreatDoor

/- Rows of elements of several cells, whatever they are: plain facts. -/
namespace Go.Proofs.YtihdgfihdecalaaGreatDoor.Plain
open Go Go.RowKit
set_option linter.unusedVariables false

def rowC {α : Type} (enc : α → List Value) (l : List α) : List Value := l.flatMap enc
theorem rowC_append {α : Type} (enc : α → List Value) (a b : List α) : rowC enc (a ++ b) = rowC enc a ++ rowC enc b := List.flatMap_append
theorem rowC_one {α : Type} (enc : α → List Value) (a : α) : rowC enc [a] = enc a := by simp [rowC]
theorem rowC_snoc {α : Type} (enc : α → List Value) (l : List α) (a : α) : rowC enc (l ++ [a]) = rowC enc l ++ enc a := by rw [rowC_append, rowC_one]
theorem rowC_len {α : Type} {enc : α → List Value} {k : Nat} (hk : ∀ a, (enc a).length = k) (l : List α) : (rowC enc l).length = l.length * k := by
  induction l with
  | nil => simp [rowC]
  | cons a l ih => rw [show rowC enc (a :: l) = enc a ++ rowC enc l from rfl, List.length_append, ih, hk, List.length_cons, Nat.add_mul, Nat.one_mul, Nat.add_comm]
theorem rowC_get {α : Type} {enc : α → List Value} {k : Nat} (hk : ∀ a, (enc a).length = k) {l : List α} {i : Nat} {a : α} (h : l[i]? = some a) {j : Nat} (hj : j < k) : (rowC enc l)[i * k + j]? = (enc a)[j]? := by
  induction l generalizing i with
  | nil => simp at h
  | cons b l ih =>
    rw [show rowC enc (b :: l) = enc b ++ rowC enc l from rfl]
    cases i with
    | zero =>
      simp at h
      subst h
      rw [Nat.zero_mul, Nat.zero_add, List.getElem?_append_left (by rw [hk]; exact hj)]
    | succ i =>
      rw [List.getElem?_append_right (by rw [hk, Nat.add_mul, Nat.one_mul]; omega), hk, show (i + 1) * k + j - k = i * k + j by rw [Nat.add_mul, Nat.one_mul]; omega]
      exact ih (by simpa using h)
theorem rowC_set {α : Type} {enc : α → List Value} {k : Nat} (hk : ∀ a, (enc a).length = k) {l : List α} {i : Nat} {a : α} (h : l[i]? = some a) {j : Nat} (hj : j < k) (b : α) (u : Value) (he : enc b = (enc a).set j u) :
    (rowC enc l).set (i * k + j) u = rowC enc (l.set i b) := by
  induction l generalizing i with
  | nil => simp at h
  | cons c l ih =>
    rw [show rowC enc (c :: l) = enc c ++ rowC enc l from rfl]
    cases i with
    | zero =>
      simp at h
      subst h
      rw [Nat.zero_mul, Nat.zero_add, List.set_append_left _ _ (by rw [hk]; exact hj), List.set_cons_zero, show rowC enc (b :: l) = enc b ++ rowC enc l from rfl, he]
    | succ i =>
      rw [List.set_append_right _ _ (by rw [hk, Nat.add_mul, Nat.one_mul]; omega), hk, show (i + 1) * k + j - k = i * k + j by rw [Nat.add_mul, Nat.one_mul]; omega, ih (by simpa using h), List.set_cons_succ]
      rfl
theorem rowC_made {α : Type} {enc : α → List Value} {k : Nat} (hk : ∀ a, (enc a).length = k) (h0 : 0 < k) {z : Value} {a0 : α} (hz : z.cells.toList = enc a0) (n : Nat) : (madeCells z.cells (n * k)).toList = rowC enc (List.replicate n a0) := by
  have hs : z.cells.size = k := by rw [← Array.length_toList, hz, hk]
  apply List.ext_getElem?
  intro i
  have hi : i = i / k * k + i % k := by rw [Nat.mul_comm]; exact (Nat.div_add_mod i k).symm
  have hj : i % k < k := Nat.mod_lt _ h0
  by_cases hq : i / k < n
  · have hm : i < n * k := by
      have h2 : (i / k + 1) * k ≤ n * k := Nat.mul_le_mul_right k hq
      rw [Nat.add_mul, Nat.one_mul] at h2
      omega
    have e : (rowC enc (List.replicate n a0))[i]? = (enc a0)[i % k]? := by
      rw [hi, rowC_get hk (a := a0) (by simp [hq]) hj]
      congr 1
      rw [← hi]
    rw [e, Array.getElem?_toList, madeCells, Array.getElem?_map, Array.getElem?_eq_getElem (by simp; omega), Array.getElem_range, Option.map_some, ← hz, hs]
    rw [Array.getElem?_toList, Array.getElem?_eq_getElem (by omega)]
    congr 1
    exact getElem!_pos z.cells (i % k) (by omega)
  · have hm : n * k ≤ i := by
      have h2 : n * k ≤ i / k * k := Nat.mul_le_mul_right k (by omega)
      omega
    rw [List.getElem?_eq_none (by simp [madeCells]; omega), List.getElem?_eq_none (by rw [rowC_len hk]; simpa using hm)]
/-- A row under way: the first ones are laid. -/
def laidK {α : Type} (a0 : α) (l : List α) (i : Nat) : List α := l.take i ++ List.replicate (l.length - i) a0
theorem laidK_zero {α : Type} (a0 : α) (l : List α) : laidK a0 l 0 = List.replicate l.length a0 := by simp [laidK]
theorem laidK_all {α : Type} (a0 : α) (l : List α) : laidK a0 l l.length = l := by simp [laidK]
theorem laidK_at {α : Type} (a0 : α) {l : List α} {i : Nat} (h : i < l.length) : (laidK a0 l i)[i]? = some a0 := by
  unfold laidK
  rw [List.getElem?_append_right (by simp; omega), show i - (l.take i).length = 0 by simp; omega, List.getElem?_replicate, if_pos (by omega)]
theorem laidK_set {α : Type} (a0 : α) {l : List α} {i : Nat} (h : i < l.length) : (laidK a0 l i).set i l[i] = laidK a0 l (i + 1) := by
  unfold laidK
  rw [List.set_append_right _ _ (by simp; omega)]
  have e1 : i - (l.take i).length = 0 := by simp; omega
  have e2 : l.take (i + 1) = l.take i ++ [l[i]] := List.take_succ_eq_append_getElem h
  have e3 : l.length - i = (l.length - (i + 1)) + 1 := by omega
  rw [e1, e3, List.replicate_succ, List.set_cons_zero, e2, List.append_assoc]
  rfl
/-- Rows of marks. -/
def marksK {α : Type} (mk : Nat → α) (s k0 n : Nat) : List α := (List.range n).map fun i => mk (k0 + i * s)
def markedK {α : Type} (mk : Nat → α) (s k0 : Nat) (l : List α) (i : Nat) : List α := marksK mk s k0 i ++ l.drop i
theorem marksK_len {α : Type} (mk : Nat → α) (s k0 n : Nat) : (marksK mk s k0 n).length = n := by simp [marksK]
theorem marksK_succ {α : Type} (mk : Nat → α) (s k0 n : Nat) : marksK mk s k0 (n + 1) = marksK mk s k0 n ++ [mk (k0 + n * s)] := by simp [marksK, List.range_succ]
theorem markedK_zero {α : Type} (mk : Nat → α) (s k0 : Nat) (l : List α) : markedK mk s k0 l 0 = l := by simp [markedK, marksK]
theorem markedK_all {α : Type} (mk : Nat → α) (s k0 : Nat) (l : List α) : markedK mk s k0 l l.length = marksK mk s k0 l.length := by simp [markedK]
theorem markedK_at {α : Type} (mk : Nat → α) (s k0 : Nat) {l : List α} {i : Nat} (h : i < l.length) : (markedK mk s k0 l i)[i]? = some l[i] := by
  unfold markedK
  rw [List.getElem?_append_right (by rw [marksK_len]; omega), marksK_len]
  simp [h]
theorem markedK_set {α : Type} (mk : Nat → α) (s k0 : Nat) {l : List α} {i : Nat} (h : i < l.length) : (markedK mk s k0 l i).set i (mk (k0 + i * s)) = markedK mk s k0 l (i + 1) := by
  unfold markedK
  rw [List.set_append_right _ _ (by rw [marksK_len]; omega), marksK_len, Nat.sub_self, List.drop_eq_getElem_cons h, List.set_cons_zero, marksK_succ]
  simp
theorem set_at {α : Type} {l : List α} {i : Nat} {a : α} (b : α) (h : l[i]? = some a) : (l.set i b)[i]? = some b := by
  have hi := (List.getElem?_eq_some_iff.1 h).1
  simp [hi]
theorem rowC_set2 {α : Type} {enc : α → List Value} {k : Nat} (hk : ∀ a, (enc a).length = k) {l : List α} {i : Nat} {a : α} (h : l[i]? = some a) (b : α) {j : Nat} (hj : j < k) (c : α) (u : Value) (he : enc c = (enc b).set j u) :
    (rowC enc (l.set i b)).set (i * k + j) u = rowC enc (l.set i c) := by rw [rowC_set hk (set_at b h) hj c u he, List.set_set]
end Go.Proofs.YtihdgfihdecalaaGreatDoor.Plain

/- A struct in a box: its cells, and what they are behind stores and calls. -/
namespace Go.Proofs.YtihdgfihdecalaaGreatDoor
open Go.RowKit
set_option linter.unusedVariables false

def HasObj (W : World) (b : Nat) (t : TypeId) (vs : List Value) : Prop := W.heap[b]? = some (.cells vs.toArray t (0, 0))
theorem HasObj.lt {W : World} {b : Nat} {t : TypeId} {vs : List Value} (h : HasObj W b t vs) : b < W.heap.size := (Array.getElem?_eq_some_iff.1 h).1
theorem HasObj.cell {W : World} {b : Nat} {t : TypeId} {vs : List Value} (h : HasObj W b t vs) (j : Nat) {v : Value} (hj : vs[j]? = some v) : W.cell? ⟨b, j, none⟩ = some v := by
  simp [World.cell?, show W.heap[b]? = _ from h, hj]
theorem HasObj.frozen {W : World} {b : Nat} {t : TypeId} {vs : List Value} (h : HasObj W b t vs) (j : Nat) : W.frozen? ⟨b, j, none⟩ = false := by
  simp [World.frozen?, show W.heap[b]? = _ from h]
theorem HasObj.new (W : World) (t : TypeId) (vs : List Value) : HasObj (W.alloc (.cells vs.toArray t)) W.heap.size t vs := World.alloc_heap_new W _
theorem HasObj.kept {W W' : World} {row : Option Nat} {b : Nat} {t : TypeId} {vs : List Value} (h : HasObj W b t vs) (hg : W.grownBy W' row) (hne : some b ≠ row) : HasObj W' b t vs := (hg.block b h.lt hne).trans h
theorem HasObj.alloc {W : World} {b : Nat} {t : TypeId} {vs : List Value} (h : HasObj W b t vs) (o : Obj) : HasObj (W.alloc o) b t vs := h.kept (World.grownBy_alloc W o none) (by simp)
theorem HasObj.up {W W' : World} {n b : Nat} {t : TypeId} {vs : List Value} (h : HasObj W b t vs) (hb : Below n W W') (hn : b < n) : HasObj W' b t vs := (hb.block b hn).trans h
theorem HasObj.ups {W W' : World} {b : Nat} {t : TypeId} {vs : List Value} (h : HasObj W b t vs) (hb : Below W.heap.size W W') : HasObj W' b t vs := h.up hb h.lt
theorem HasObj.set {W : World} {b : Nat} {t : TypeId} {vs : List Value} (h : HasObj W b t vs) (j : Nat) (u : Value) : HasObj (W.setCell ⟨b, j, none⟩ u) b t (vs.set j u) := by
  obtain ⟨hlt, hk⟩ := Array.getElem?_eq_some_iff.1 h
  show (W.heap.modify b _)[b]? = _
  rw [Array.getElem?_eq_getElem (by rw [Array.size_modify]; exact hlt), Array.getElem_modify_self, hk]
  simp
theorem HasObj.other {W : World} {b c j : Nat} {t : TypeId} {vs : List Value} (h : HasObj W b t vs) (hne : b ≠ c) (u : Value) : HasObj (W.setCell ⟨c, j, none⟩ u) b t vs :=
  (Below.heap_setCell W ⟨c, j, none⟩ u b (fun e => hne e)).trans h
/-- A row of one's own is not in the box. -/
theorem HasObj.not_row {W : World} {b : Nat} {t e : TypeId} {vs : List Value} (h : HasObj W b t vs) (hte : t ≠ e) {base size k : Nat} {v : Value} {xs : List Value} (hr : W.ownsRow base e size v k xs) : v.ownBlock ≠ some b := by
  rcases hr.2 with ⟨rfl, _⟩ | ⟨g, cap, cur, rfl, _, hgb, _⟩
  · simp [Value.ownBlock]
  · intro e'
    have : g = b := by simpa [Value.ownBlock] using e'
    subst this
    rw [show W.heap[g]? = _ from h] at hgb
    simp at hgb
    exact hte hgb.2
/-- A row stays when a box of another kind is written. -/
theorem HasObj.row {W : World} {b j : Nat} {t e : TypeId} {vs : List Value} (h : HasObj W b t vs) (hte : t ≠ e) {base size k : Nat} {v : Value} {xs : List Value} (hr : W.ownsRow base e size v k xs) (u : Value) : (W.setCell ⟨b, j, none⟩ u).ownsRow base e size v k xs :=
  g_aside hr (g_store (g_self W (some b)) u) (fun k hk => by cases hk; exact h.not_row hte hr)
/-- Rows of two kinds lie apart. -/
theorem rows_apart {W : World} {B1 B2 s1 s2 n1 n2 : Nat} {e1 e2 : TypeId} {v1 v2 : Value} {xs1 xs2 : List Value} (h1 : W.ownsRow B1 e1 s1 v1 n1 xs1) (h2 : W.ownsRow B2 e2 s2 v2 n2 xs2) (hne : e1 ≠ e2) : ∀ k, v1.ownBlock = some k → v2.ownBlock ≠ some k := by
  intro k hk e
  rcases h1.2 with ⟨rfl, _⟩ | ⟨g1, _, _, rfl, _, hh1, _⟩
  · cases hk
  · rcases h2.2 with ⟨rfl, _⟩ | ⟨g2, _, _, rfl, _, hh2, _⟩
    · cases e
    · have a1 : g1 = k := Option.some.inj hk
      have a2 : g2 = k := Option.some.inj e
      rw [a1] at hh1
      rw [a2, hh1] at hh2
      simp at hh2
      exact hne hh2.2
/-- Blocks that are written, and no others. -/
structure GrownBut (w w' : World) (S : Nat → Prop) : Prop where
  os : w'.os = w.os
  tape : w'.tape = w.tape
  output : w'.output = w.output
  size : w.heap.size ≤ w'.heap.size
  block : ∀ k, k < w.heap.size → ¬ S k → w'.heap[k]? = w.heap[k]?
theorem GrownBut.of {w w' : World} {row : Option Nat} (h : w.grownBy w' row) : GrownBut w w' (fun k => row = some k) := ⟨h.os, h.tape, h.output, h.size, fun k hk hn => h.block k hk (fun e => hn e.symm)⟩
theorem GrownBut.below {w w' : World} {n : Nat} (h : Below n w w') (hn : n = w.heap.size) : GrownBut w w' (fun _ => False) := ⟨h.os, h.tape, h.output, h.size, fun k hk _ => h.block k (by omega)⟩
theorem GrownBut.then {w w1 w2 : World} {S T : Nat → Prop} (h : GrownBut w w1 S) (k : GrownBut w1 w2 T) : GrownBut w w2 (fun x => S x ∨ T x) :=
  ⟨k.os.trans h.os, k.tape.trans h.tape, k.output.trans h.output, Nat.le_trans h.size k.size, fun x hx hn => (k.block x (Nat.lt_of_lt_of_le hx h.size) (fun t => hn (.inr t))).trans (h.block x hx (fun s => hn (.inl s)))⟩
theorem GrownBut.mono {w w' : World} {S T : Nat → Prop} (h : GrownBut w w' S) (hst : ∀ k, k < w.heap.size → S k → T k) : GrownBut w w' T := ⟨h.os, h.tape, h.output, h.size, fun k hk hn => h.block k hk (fun s => hn (hst k hk s))⟩
theorem GrownBut.row {w w' : World} {S : Nat → Prop} (h : GrownBut w w' S) {base size k : Nat} {e : TypeId} {v : Value} {xs : List Value} (hr : w.ownsRow base e size v k xs) (hS : ∀ g, v.ownBlock = some g → ¬ S g) : w'.ownsRow base e size v k xs := by
  refine ⟨hr.1, ?_⟩
  rcases hr.2 with h2 | ⟨g, cap, cur, rfl, hb, hh, hrest⟩
  · exact .inl h2
  · exact .inr ⟨g, cap, cur, rfl, hb, (h.block g (Array.getElem?_eq_some_iff.1 hh).1 (hS g rfl)).trans hh, hrest⟩
theorem GrownBut.obj {w w' : World} {S : Nat → Prop} (h : GrownBut w w' S) {b : Nat} {t : TypeId} {vs : List Value} (hb : HasObj w b t vs) (hS : ¬ S b) : HasObj w' b t vs := (h.block b hb.lt hS).trans hb
end Go.Proofs.YtihdgfihdecalaaGreatDoor

/- A row behind a row, both of one's own. -/
namespace Go.Proofs.YtihdgfihdecalaaGreatDoor
open Go Go.RowKit
set_option linter.unusedVariables false

section
variable {P : Program}
end
end Go.Proofs.YtihdgfihdecalaaGreatDoor

/- A struct of seven cells is laid into a box. -/
namespace Go.Proofs.YtihdgfihdecalaaGreatDoor
open Go.RowKit
set_option linter.unusedVariables false

end Go.Proofs.YtihdgfihdecalaaGreatDoor
