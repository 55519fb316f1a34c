/- A struct in a box: its cells, and what they are behind stores and calls. -/
import Derived.Test.YtkjlponggednoacOwn
namespace Go.Proofs.Ytkjlponggednoac
open Go.RowKit
set_option linter.unusedVariables false

def HasObj (W : World) (b : Nat) (t : TypeId) (vs : List Value) : Prop := W.heap[b]? = some (.cells vs.toArray t (0, 0))
theorem HasObj.lt {W : World} {b : Nat} {t : TypeId} {vs : List Value} (h : HasObj W b t vs) : b < W.heap.size := (Array.getElem?_eq_some_iff.1 h).1
theorem HasObj.cell {W : World} {b : Nat} {t : TypeId} {vs : List Value} (h : HasObj W b t vs) (j : Nat) {v : Value} (hj : vs[j]? = some v) : W.cell? ⟨b, j, none⟩ = some v := by
  simp [World.cell?, show W.heap[b]? = _ from h, hj]
theorem HasObj.frozen {W : World} {b : Nat} {t : TypeId} {vs : List Value} (h : HasObj W b t vs) (j : Nat) : W.frozen? ⟨b, j, none⟩ = false := by
  simp [World.frozen?, show W.heap[b]? = _ from h]
theorem HasObj.new (W : World) (t : TypeId) (vs : List Value) : HasObj (W.alloc (.cells vs.toArray t)) W.heap.size t vs := World.alloc_heap_new W _
theorem HasObj.kept {W W' : World} {row : Option Nat} {b : Nat} {t : TypeId} {vs : List Value} (h : HasObj W b t vs) (hg : W.grownBy W' row) (hne : some b ≠ row) : HasObj W' b t vs := (hg.block b h.lt hne).trans h
theorem HasObj.alloc {W : World} {b : Nat} {t : TypeId} {vs : List Value} (h : HasObj W b t vs) (o : Obj) : HasObj (W.alloc o) b t vs := h.kept (World.grownBy_alloc W o none) (by simp)
theorem HasObj.up {W W' : World} {n b : Nat} {t : TypeId} {vs : List Value} (h : HasObj W b t vs) (hb : Below n W W') (hn : b < n) : HasObj W' b t vs := (hb.block b hn).trans h
theorem HasObj.ups {W W' : World} {b : Nat} {t : TypeId} {vs : List Value} (h : HasObj W b t vs) (hb : Below W.heap.size W W') : HasObj W' b t vs := h.up hb h.lt
theorem HasObj.set {W : World} {b : Nat} {t : TypeId} {vs : List Value} (h : HasObj W b t vs) (j : Nat) (u : Value) : HasObj (W.setCell ⟨b, j, none⟩ u) b t (vs.set j u) := by
  obtain ⟨hlt, hk⟩ := Array.getElem?_eq_some_iff.1 h
  show (W.heap.modify b _)[b]? = _
  rw [Array.getElem?_eq_getElem (by rw [Array.size_modify]; exact hlt), Array.getElem_modify_self, hk]
  simp
theorem HasObj.other {W : World} {b c j : Nat} {t : TypeId} {vs : List Value} (h : HasObj W b t vs) (hne : b ≠ c) (u : Value) : HasObj (W.setCell ⟨c, j, none⟩ u) b t vs :=
  (Below.heap_setCell W ⟨c, j, none⟩ u b (fun e => hne e)).trans h
/-- A row of one's own is not in the box. -/
theorem HasObj.not_row {W : World} {b : Nat} {t e : TypeId} {vs : List Value} (h : HasObj W b t vs) (hte : t ≠ e) {base size k : Nat} {v : Value} {xs : List Value} (hr : W.ownsRow base e size v k xs) : v.ownBlock ≠ some b := by
  rcases hr.2 with ⟨rfl, _⟩ | ⟨g, cap, cur, rfl, _, hgb, _⟩
  · simp [Value.ownBlock]
  · intro e'
    have : g = b := by simpa [Value.ownBlock] using e'
    subst this
    rw [show W.heap[g]? = _ from h] at hgb
    simp at hgb
    exact hte hgb.2
/-- A row stays when a box of another kind is written. -/
theorem HasObj.row {W : World} {b j : Nat} {t e : TypeId} {vs : List Value} (h : HasObj W b t vs) (hte : t ≠ e) {base size k : Nat} {v : Value} {xs : List Value} (hr : W.ownsRow base e size v k xs) (u : Value) : (W.setCell ⟨b, j, none⟩ u).ownsRow base e size v k xs :=
  g_aside hr (g_store (g_self W (some b)) u) (fun k hk => by cases hk; exact h.not_row hte hr)
/-- Rows of two kinds lie apart. -/
theorem rows_apart {W : World} {B1 B2 s1 s2 n1 n2 : Nat} {e1 e2 : TypeId} {v1 v2 : Value} {xs1 xs2 : List Value} (h1 : W.ownsRow B1 e1 s1 v1 n1 xs1) (h2 : W.ownsRow B2 e2 s2 v2 n2 xs2) (hne : e1 ≠ e2) : ∀ k, v1.ownBlock = some k → v2.ownBlock ≠ some k := by
  intro k hk e
  rcases h1.2 with ⟨rfl, _⟩ | ⟨g1, _, _, rfl, _, hh1, _⟩
  · cases hk
  · rcases h2.2 with ⟨rfl, _⟩ | ⟨g2, _, _, rfl, _, hh2, _⟩
    · cases e
    · have a1 : g1 = k := Option.some.inj hk
      have a2 : g2 = k := Option.some.inj e
      rw [a1] at hh1
      rw [a2, hh1] at hh2
      simp at hh2
      exact hne hh2.2
theorem HasObj.drewn {W : World} {b : Nat} {t : TypeId} {vs : List Value} (h : HasObj W b t vs) : HasObj W.drew b t vs := h
/-- Blocks that are written, and no others. -/
structure GrownBut (w w' : World) (S : Nat → Prop) : Prop where
  os : w'.os = w.os
  tape : w'.tape = w.tape
  output : w'.output = w.output
  size : w.heap.size ≤ w'.heap.size
  block : ∀ k, k < w.heap.size → ¬ S k → w'.heap[k]? = w.heap[k]?
theorem GrownBut.of {w w' : World} {row : Option Nat} (h : w.grownBy w' row) : GrownBut w w' (fun k => row = some k) := ⟨h.os, h.tape, h.output, h.size, fun k hk hn => h.block k hk (fun e => hn e.symm)⟩
theorem GrownBut.below {w w' : World} {n : Nat} (h : Below n w w') (hn : n = w.heap.size) : GrownBut w w' (fun _ => False) := ⟨h.os, h.tape, h.output, h.size, fun k hk _ => h.block k (by omega)⟩
theorem GrownBut.then {w w1 w2 : World} {S T : Nat → Prop} (h : GrownBut w w1 S) (k : GrownBut w1 w2 T) : GrownBut w w2 (fun x => S x ∨ T x) :=
  ⟨k.os.trans h.os, k.tape.trans h.tape, k.output.trans h.output, Nat.le_trans h.size k.size, fun x hx hn => (k.block x (Nat.lt_of_lt_of_le hx h.size) (fun t => hn (.inr t))).trans (h.block x hx (fun s => hn (.inl s)))⟩
theorem GrownBut.mono {w w' : World} {S T : Nat → Prop} (h : GrownBut w w' S) (hst : ∀ k, k < w.heap.size → S k → T k) : GrownBut w w' T := ⟨h.os, h.tape, h.output, h.size, fun k hk hn => h.block k hk (fun s => hn (hst k hk s))⟩
theorem GrownBut.toBelow {w w' : World} {S : Nat → Prop} {n : Nat} (h : GrownBut w w' S) (hn : n ≤ w.heap.size) (hS : ∀ k, S k → n ≤ k) : Below n w w' := ⟨h.os, h.tape, h.output, h.size, fun k hk => h.block k (by omega) (fun s => by have := hS k s; omega)⟩
theorem GrownBut.row {w w' : World} {S : Nat → Prop} (h : GrownBut w w' S) {base size k : Nat} {e : TypeId} {v : Value} {xs : List Value} (hr : w.ownsRow base e size v k xs) (hS : ∀ g, v.ownBlock = some g → ¬ S g) : w'.ownsRow base e size v k xs := by
  refine ⟨hr.1, ?_⟩
  rcases hr.2 with h2 | ⟨g, cap, cur, rfl, hb, hh, hrest⟩
  · exact .inl h2
  · exact .inr ⟨g, cap, cur, rfl, hb, (h.block g (Array.getElem?_eq_some_iff.1 hh).1 (hS g rfl)).trans hh, hrest⟩
theorem GrownBut.obj {w w' : World} {S : Nat → Prop} (h : GrownBut w w' S) {b : Nat} {t : TypeId} {vs : List Value} (hb : HasObj w b t vs) (hS : ¬ S b) : HasObj w' b t vs := (h.block b hb.lt hS).trans hb
end Go.Proofs.Ytkjlponggednoac
