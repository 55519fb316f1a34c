/- Several texts in one: Own, RowK, ObjK, RowAppend, ObjFill. Made by fuse_tl.py. -/
import Derived.Test.YtgdihceikhkddaaDoorPlainA
import Derived.WalkKit
import Derived.WalkSpells
import Derived.ProofKit
import Derived.Handy
import Derived.Laws.OwnMore
import Derived.OwnWalk
import Derived.RangeFuncBox
import Derived.Deep.Slices
import Derived.Laws.AppendOwn
/- Rows of one's own, boxes, and what is below: general facts, under names of their own. -/
namespace Go.Proofs.YtgdihceikhkddaaDoor
open Go.RowKit
open Plain
set_option linter.unusedVariables false

theorem g_add (x : Addr) (j : Nat) : (x.add j).block = x.block := by unfold Addr.add; split <;> rfl
theorem g_grown {w w1 : World} (h : Below w.heap.size w w1) (row : Option Nat) : w.grownBy w1 row := ⟨h.os, h.tape, h.output, h.size, fun k hk _ => h.block k hk⟩
theorem g_below {w w1 : World} (h : w.grownBy w1 none) : Below w.heap.size w w1 := ⟨h.os, h.tape, h.output, h.size, fun k hk => h.block k hk (by simp)⟩
theorem g_self (w : World) (row : Option Nat) : w.grownBy w row := ⟨rfl, rfl, rfl, Nat.le_refl _, fun _ _ _ => rfl⟩
theorem g_store {w w1 : World} {g j : Nat} (h : w.grownBy w1 (some g)) (u : Value) : w.grownBy (w1.setCell ⟨g, j, none⟩ u) (some g) :=
 ⟨h.os, h.tape, h.output, by simpa using h.size, fun k hk hne => (Below.heap_setCell _ _ _ k (fun e => hne (by rw [e]))).trans (h.block k hk hne)⟩
theorem g_stays {w w1 : World} {B n : Nat} {e : TypeId} {size : Nat} {v : Value} {xs : List Value} (h : w.ownsRow B e size v n xs) (hb : Below w.heap.size w w1) : w1.ownsRow B e size v n xs :=
 h.kept (g_grown hb none) (Classical.em _)
theorem g_based {w : World} {B B' n : Nat} {e : TypeId} {size : Nat} {v : Value} {xs : List Value} (h : w.ownsRow B e size v n xs) (hB : B' ≤ B) : w.ownsRow B' e size v n xs := by
 refine ⟨h.1, ?_⟩
 rcases h.2 with h2 | ⟨g, cap, cur, h1, h2, h3⟩
 ·exact .inl h2
 ·exact .inr ⟨g, cap, cur, h1, by omega, h3⟩
theorem g_shape {w : World} {B n m : Nat} {e : TypeId} {v : Value} {xs : List Value} (h : w.ownsRow B e m v n xs) : ∃ a c, v = .slice a n c := by
 rcases h.2 with ⟨h, h0⟩ | ⟨_, _, _, h, _⟩
 ·exact ⟨none, 0, by rw [h0]; exact h⟩
 ·exact ⟨_, _, h⟩
/-- A row of one's own stays when another block is written. -/
theorem g_aside {w w1 : World} {B n m : Nat} {e : TypeId} {v : Value} {xs : List Value} {row : Option Nat} (h : w.ownsRow B e m v n xs) (hg : w.grownBy w1 row) (hne : ∀ k, row = some k → v.ownBlock ≠ some k) : w1.ownsRow B e m v n xs := by
 refine h.kept hg ?_
 cases hv : v.ownBlock with
 | none => exact .inl rfl
 | some b => exact .inr fun e => hne b e.symm hv
theorem g_cell {w w' : World} {p : Addr} {v : Value} (hb : Below w.heap.size w w') (h : w.cell? p = some v) : w'.cell? p = some v := (hb.cell (World.block_lt_of_cell? w p h)).trans h
theorem g_some {w : World} {B g n cap m : Nat} {e : TypeId} {xs : List Value} (h : w.ownsRow B e m (.slice (some ⟨g, 0, none⟩) n cap) n xs) {j : Nat} (hj : j < n * m) : ∃ y, w.cell? ⟨g, j, none⟩ = some y := by
 rw [h.cellAt j (by simpa using hj)]
 exact ⟨_, List.getElem?_eq_getElem (by rw [h.1]; exact hj)⟩
end Go.Proofs.YtgdihceikhkddaaDoor

/- Rows of elements of several cells, whatever they are: plain facts. -/
namespace Go.Proofs.YtgdihceikhkddaaDoor.Plain
open Go Go.RowKit
set_option linter.unusedVariables false

end Go.Proofs.YtgdihceikhkddaaDoor.Plain

/- A struct in a box: its cells, and what they are behind stores and calls. -/
namespace Go.Proofs.YtgdihceikhkddaaDoor
open Go.RowKit
set_option linter.unusedVariables false

def HasObj (W : World) (b : Nat) (t : TypeId) (vs : List Value) : Prop := W.heap[b]? = some (.cells vs.toArray t (0, 0))
theorem HasObj.lt {W : World} {b : Nat} {t : TypeId} {vs : List Value} (h : HasObj W b t vs) : b < W.heap.size := (Array.getElem?_eq_some_iff.1 h).1
theorem HasObj.cell {W : World} {b : Nat} {t : TypeId} {vs : List Value} (h : HasObj W b t vs) (j : Nat) {v : Value} (hj : vs[j]? = some v) : W.cell? ⟨b, j, none⟩ = some v := by
 simp [World.cell?, show W.heap[b]? = _ from h, hj]
theorem HasObj.frozen {W : World} {b : Nat} {t : TypeId} {vs : List Value} (h : HasObj W b t vs) (j : Nat) : W.frozen? ⟨b, j, none⟩ = false := by
 simp [World.frozen?, show W.heap[b]? = _ from h]
theorem HasObj.new (W : World) (t : TypeId) (vs : List Value) : HasObj (W.alloc (.cells vs.toArray t)) W.heap.size t vs := World.alloc_heap_new W _
theorem HasObj.kept {W W' : World} {row : Option Nat} {b : Nat} {t : TypeId} {vs : List Value} (h : HasObj W b t vs) (hg : W.grownBy W' row) (hne : some b ≠ row) : HasObj W' b t vs := (hg.block b h.lt hne).trans h
theorem HasObj.alloc {W : World} {b : Nat} {t : TypeId} {vs : List Value} (h : HasObj W b t vs) (o : Obj) : HasObj (W.alloc o) b t vs := h.kept (World.grownBy_alloc W o none) (by simp)
theorem HasObj.up {W W' : World} {n b : Nat} {t : TypeId} {vs : List Value} (h : HasObj W b t vs) (hb : Below n W W') (hn : b < n) : HasObj W' b t vs := (hb.block b hn).trans h
theorem HasObj.ups {W W' : World} {b : Nat} {t : TypeId} {vs : List Value} (h : HasObj W b t vs) (hb : Below W.heap.size W W') : HasObj W' b t vs := h.up hb h.lt
theorem HasObj.set {W : World} {b : Nat} {t : TypeId} {vs : List Value} (h : HasObj W b t vs) (j : Nat) (u : Value) : HasObj (W.setCell ⟨b, j, none⟩ u) b t (vs.set j u) := by
 obtain ⟨hlt, hk⟩ := Array.getElem?_eq_some_iff.1 h
 show (W.heap.modify b _)[b]? = _
 rw [Array.getElem?_eq_getElem (by rw [Array.size_modify]; exact hlt), Array.getElem_modify_self, hk]
 simp
theorem HasObj.other {W : World} {b c j : Nat} {t : TypeId} {vs : List Value} (h : HasObj W b t vs) (hne : b ≠ c) (u : Value) : HasObj (W.setCell ⟨c, j, none⟩ u) b t vs :=
 (Below.heap_setCell W ⟨c, j, none⟩ u b (fun e => hne e)).trans h
/-- A row of one's own is not in the box. -/
theorem HasObj.not_row {W : World} {b : Nat} {t e : TypeId} {vs : List Value} (h : HasObj W b t vs) (hte : t ≠ e) {base size k : Nat} {v : Value} {xs : List Value} (hr : W.ownsRow base e size v k xs) : v.ownBlock ≠ some b := by
 rcases hr.2 with ⟨rfl, _⟩ | ⟨g, cap, cur, rfl, _, hgb, _⟩
 ·simp [Value.ownBlock]
 ·intro e'
  have : g = b := by simpa [Value.ownBlock] using e'
  subst this
  rw [show W.heap[g]? = _ from h] at hgb
  simp at hgb
  exact hte hgb.2
/-- A row stays when a box of another kind is written. -/
theorem HasObj.row {W : World} {b j : Nat} {t e : TypeId} {vs : List Value} (h : HasObj W b t vs) (hte : t ≠ e) {base size k : Nat} {v : Value} {xs : List Value} (hr : W.ownsRow base e size v k xs) (u : Value) : (W.setCell ⟨b, j, none⟩ u).ownsRow base e size v k xs :=
 g_aside hr (g_store (g_self W (some b)) u) (fun k hk => by cases hk; exact h.not_row hte hr)
/-- Blocks that are written, and no others. -/
structure GrownBut (w w' : World) (S : Nat → Prop) : Prop where
 os : w'.os = w.os
 tape : w'.tape = w.tape
 output : w'.output = w.output
 size : w.heap.size ≤ w'.heap.size
 block : ∀ k, k < w.heap.size → ¬ S k → w'.heap[k]? = w.heap[k]?
theorem GrownBut.of {w w' : World} {row : Option Nat} (h : w.grownBy w' row) : GrownBut w w' (fun k => row = some k) := ⟨h.os, h.tape, h.output, h.size, fun k hk hn => h.block k hk (fun e => hn e.symm)⟩
theorem GrownBut.below {w w' : World} {n : Nat} (h : Below n w w') (hn : n = w.heap.size) : GrownBut w w' (fun _ => False) := ⟨h.os, h.tape, h.output, h.size, fun k hk _ => h.block k (by omega)⟩
theorem GrownBut.then {w w1 w2 : World} {S T : Nat → Prop} (h : GrownBut w w1 S) (k : GrownBut w1 w2 T) : GrownBut w w2 (fun x => S x ∨ T x) :=
 ⟨k.os.trans h.os, k.tape.trans h.tape, k.output.trans h.output, Nat.le_trans h.size k.size, fun x hx hn => (k.block x (Nat.lt_of_lt_of_le hx h.size) (fun t => hn (.inr t))).trans (h.block x hx (fun s => hn (.inl s)))⟩
theorem GrownBut.mono {w w' : World} {S T : Nat → Prop} (h : GrownBut w w' S) (hst : ∀ k, k < w.heap.size → S k → T k) : GrownBut w w' T := ⟨h.os, h.tape, h.output, h.size, fun k hk hn => h.block k hk (fun s => hn (hst k hk s))⟩
theorem GrownBut.row {w w' : World} {S : Nat → Prop} (h : GrownBut w w' S) {base size k : Nat} {e : TypeId} {v : Value} {xs : List Value} (hr : w.ownsRow base e size v k xs) (hS : ∀ g, v.ownBlock = some g → ¬ S g) : w'.ownsRow base e size v k xs := by
 refine ⟨hr.1, ?_⟩
 rcases hr.2 with h2 | ⟨g, cap, cur, rfl, hb, hh, hrest⟩
 ·exact .inl h2
 ·exact .inr ⟨g, cap, cur, rfl, hb, (h.block g (Array.getElem?_eq_some_iff.1 hh).1 (hS g rfl)).trans hh, hrest⟩
theorem GrownBut.obj {w w' : World} {S : Nat → Prop} (h : GrownBut w w' S) {b : Nat} {t : TypeId} {vs : List Value} (hb : HasObj w b t vs) (hS : ¬ S b) : HasObj w' b t vs := (h.block b hb.lt hS).trans hb
end Go.Proofs.YtgdihceikhkddaaDoor

/- A row behind a row, both of one's own. -/
namespace Go.Proofs.YtgdihceikhkddaaDoor
open Go Go.RowKit
set_option linter.unusedVariables false

section
variable {P : Program}
end
end Go.Proofs.YtgdihceikhkddaaDoor

/- A struct of seven cells is laid into a box. -/
namespace Go.Proofs.YtgdihceikhkddaaDoor
open Go.RowKit
set_option linter.unusedVariables false

structure Filled (W : World) (r : Nat) (t : TypeId) (us : List Value) (U : World) : Prop where
 obj : HasObj U r t us
 other : ∀ {b : Nat} {t' : TypeId} {vs : List Value}, b ≠ r → HasObj W b t' vs → HasObj U b t' vs
 row : ∀ {e : TypeId} {base size k : Nat} {v : Value} {xs : List Value}, t ≠ e → W.ownsRow base e size v k xs → U.ownsRow base e size v k xs
 below : ∀ {n : Nat} {w : World}, n ≤ r → Below n w W → Below n w U
 size : U.heap.size = W.heap.size
theorem fill7 {W : World} {r : Nat} {t : TypeId} {v0 v1 v2 v3 v4 v5 v6 : Value} (h : HasObj W r t [v0, v1, v2, v3, v4, v5, v6]) (u0 u1 u2 u3 u4 u5 u6 : Value) :
  Filled W r t [u0, u1, u2, u3, u4, u5, u6] (((((((W.setCell ⟨r, 0, none⟩ u0).setCell ⟨r, 1, none⟩ u1).setCell ⟨r, 2, none⟩ u2).setCell ⟨r, 3, none⟩ u3).setCell ⟨r, 4, none⟩ u4).setCell ⟨r, 5, none⟩ u5).setCell ⟨r, 6, none⟩ u6) := by
 have h1 := h.set 0 u0; have h2 := h1.set 1 u1; have h3 := h2.set 2 u2; have h4 := h3.set 3 u3; have h5 := h4.set 4 u4; have h6 := h5.set 5 u5; have h7 := h6.set 6 u6
 refine ⟨h7, fun hne hb => ?_, fun hte hr => ?_, fun hn hb => ?_, by simp⟩
 ·exact (((((((hb.other (j := 0) hne u0).other (j := 1) hne u1).other (j := 2) hne u2).other (j := 3) hne u3).other (j := 4) hne u4).other (j := 5) hne u5).other (j := 6) hne u6)
 ·exact (h6.row (j := 6) hte (h5.row (j := 5) hte (h4.row (j := 4) hte (h3.row (j := 3) hte (h2.row (j := 2) hte (h1.row (j := 1) hte (h.row (j := 0) hte hr u0) u1) u2) u3) u4) u5) u6)
 ·exact (((((((hb.setCell (p := ⟨r, 0, none⟩) hn u0).setCell (p := ⟨r, 1, none⟩) hn u1).setCell (p := ⟨r, 2, none⟩) hn u2).setCell (p := ⟨r, 3, none⟩) hn u3).setCell (p := ⟨r, 4, none⟩) hn u4).setCell (p := ⟨r, 5, none⟩) hn u5).setCell (p := ⟨r, 6, none⟩) hn u6)
end Go.Proofs.YtgdihceikhkddaaDoor
