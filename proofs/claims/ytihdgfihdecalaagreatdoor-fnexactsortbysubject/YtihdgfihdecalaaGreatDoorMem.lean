/- What is known of the memory that a call has made: one fact, handed on from world to world by instances. Nothing of the program stands here. -/
import Derived.Test.YtihdgfihdecalaaGreatDoorRowsA
namespace Go.Proofs.YtihdgfihdecalaaGreatDoor
open Go.RowKit
set_option linter.unusedVariables false

/-- A piece of the memory: an object with its cells, or a row. -/
inductive Pc where
  | obj (b : Nat) (t : TypeId) (vs : List Value)
  | row (a : Option Addr) (n c : Nat) (t : TypeId) (m : Nat) (xs : List Value)
def Pc.blk : Pc → Option Nat
  | .obj b _ _ => some b
  | .row a n c _ _ _ => (Value.slice a n c).ownBlock
def Pc.lies (W : World) (B : Nat) : Pc → Prop
  | .obj b t vs => B ≤ b ∧ HasObj W b t vs
  | .row a n c t m xs => W.ownsRow B t m (.slice a n c) n xs
theorem Pc.lies.keep {W W' : World} {B : Nat} {p : Pc} (h : p.lies W B) (hb : ∀ k, p.blk = some k → W'.heap[k]? = W.heap[k]?) : p.lies W' B := by
  cases p with
  | obj b t vs => exact ⟨h.1, (hb b rfl).trans h.2⟩
  | row a n c t m xs =>
    refine ⟨h.1, ?_⟩
    rcases h.2 with h2 | ⟨g, cap, cur, he, hB, hh, hrest⟩
    · exact .inl h2
    · exact .inr ⟨g, cap, cur, he, hB, (hb g (by show (Value.slice a n c).ownBlock = _; rw [he]; rfl)).trans hh, hrest⟩
theorem Pc.lies.lt {W : World} {B : Nat} {p : Pc} (h : p.lies W B) : ∀ k, p.blk = some k → B ≤ k ∧ k < W.heap.size := by
  cases p with
  | obj b t vs => intro k hk; cases hk; exact ⟨h.1, h.2.lt⟩
  | row a n c t m xs => exact fun k hk => World.ownsRow.lt h k hk
theorem Pc.lies.based {W : World} {B B' : Nat} {p : Pc} (h : p.lies W B) (hB : B' ≤ B) : p.lies W B' := by
  cases p with
  | obj b t vs => exact ⟨Nat.le_trans hB h.1, h.2⟩
  | row a n c t m xs => exact g_based h hB
def Apart (L : List Pc) : Prop := L.Pairwise fun p q => ∀ k, p.blk = some k → q.blk ≠ some k

/-- What lies in W that has been made since w. -/
class Mem (w : outParam World) (W : World) (L : outParam (List Pc)) : Prop where
  below : Below w.heap.size w W
  lies : ∀ p ∈ L, p.lies W w.heap.size
  apart : Apart L
theorem Mem.start (w : World) : Mem w w [] := ⟨Below.refl _ _, fun p hp => (by cases hp), List.Pairwise.nil⟩
theorem Mem.size {w W : World} {L : List Pc} (M : Mem w W L) : w.heap.size ≤ W.heap.size := M.below.size
/-- Behind a call. -/
theorem Mem.more {w W W' : World} {L L' : List Pc} (M : Mem w W L) (hM : Mem W W' L') : Mem w W' (L' ++ L) := by
  refine ⟨M.below.trans (hM.below.mono M.size), fun p hp => ?_, ?_⟩
  · rcases List.mem_append.1 hp with h | h
    · exact (hM.lies p h).based M.size
    · exact (M.lies p h).keep fun k hk => hM.below.block k ((M.lies p h).lt k hk).2
  · refine List.pairwise_append.2 ⟨hM.apart, M.apart, fun p hp q hq k hk e => ?_⟩
    have h1 := ((hM.lies p hp).lt k hk).1
    have h2 := ((M.lies q hq).lt k e).2
    omega
theorem Mem.more0 {w W W' : World} {L : List Pc} (M : Mem w W L) (hM : Below W.heap.size W W') : Mem w W' L := M.more (L' := []) ⟨hM, fun p hp => (by cases hp), List.Pairwise.nil⟩
theorem Mem.more1 {w W W' : World} {L : List Pc} {p : Pc} (M : Mem w W L) (hM : Mem W W' [p]) : Mem w W' (p :: L) := M.more hM
theorem Mem.more2 {w W W' : World} {L : List Pc} {p q : Pc} (M : Mem w W L) (hM : Mem W W' [p, q]) : Mem w W' (p :: q :: L) := M.more hM
theorem Mem.of_row {W W' : World} {a : Option Addr} {n c m : Nat} {t : TypeId} {xs : List Value} (h : W'.ownsRow W.heap.size t m (.slice a n c) n xs) (hb : Below W.heap.size W W') : Mem W W' [.row a n c t m xs] :=
  ⟨hb, fun p hp => (by cases List.mem_singleton.1 hp; exact h), List.pairwise_singleton _ _⟩
/-- Part of it. -/
theorem Mem.part {w W : World} {L L' : List Pc} (M : Mem w W L) (h : L'.Sublist L) : Mem w W L' := ⟨M.below, fun p hp => M.lies p (h.subset hp), M.apart.sublist h⟩
class SubL (A B : List Pc) : Prop where out : A.Sublist B
instance (priority := 2500) SubL.refl {A : List Pc} : SubL A A := ⟨List.Sublist.refl _⟩
instance (priority := 3000) SubL.nil {B : List Pc} : SubL [] B := ⟨List.nil_sublist _⟩
instance (priority := 2000) SubL.same {A B : List Pc} {p : Pc} [h : SubL A B] : SubL (p :: A) (p :: B) := ⟨h.out.cons_cons p⟩
instance (priority := 1000) SubL.skip {A B : List Pc} {p : Pc} [h : SubL A B] : SubL A (p :: B) := ⟨h.out.cons p⟩
/-! ### A place in the list: the piece, and the list with another piece in its place -/
class InL (L : List Pc) (p : Pc) (f : outParam (Pc → List Pc)) : Prop where out : ∃ A B, L = A ++ p :: B ∧ f = fun q => A ++ q :: B
instance (priority := 2000) InL.p0 {L : List Pc} {p : Pc} : InL (p :: L) p (fun q => q :: L) := ⟨[], L, rfl, rfl⟩
instance (priority := 1999) InL.p1 {L : List Pc} {p : Pc} {x0 : Pc} : InL (x0 :: p :: L) p (fun q => x0 :: q :: L) := ⟨[x0], L, rfl, rfl⟩
instance (priority := 1998) InL.p2 {L : List Pc} {p : Pc} {x0 x1 : Pc} : InL (x0 :: x1 :: p :: L) p (fun q => x0 :: x1 :: q :: L) := ⟨[x0, x1], L, rfl, rfl⟩
instance (priority := 1997) InL.p3 {L : List Pc} {p : Pc} {x0 x1 x2 : Pc} : InL (x0 :: x1 :: x2 :: p :: L) p (fun q => x0 :: x1 :: x2 :: q :: L) := ⟨[x0, x1, x2], L, rfl, rfl⟩
instance (priority := 1996) InL.p4 {L : List Pc} {p : Pc} {x0 x1 x2 x3 : Pc} : InL (x0 :: x1 :: x2 :: x3 :: p :: L) p (fun q => x0 :: x1 :: x2 :: x3 :: q :: L) := ⟨[x0, x1, x2, x3], L, rfl, rfl⟩
instance (priority := 1995) InL.p5 {L : List Pc} {p : Pc} {x0 x1 x2 x3 x4 : Pc} : InL (x0 :: x1 :: x2 :: x3 :: x4 :: p :: L) p (fun q => x0 :: x1 :: x2 :: x3 :: x4 :: q :: L) := ⟨[x0, x1, x2, x3, x4], L, rfl, rfl⟩
instance (priority := 1994) InL.p6 {L : List Pc} {p : Pc} {x0 x1 x2 x3 x4 x5 : Pc} : InL (x0 :: x1 :: x2 :: x3 :: x4 :: x5 :: p :: L) p (fun q => x0 :: x1 :: x2 :: x3 :: x4 :: x5 :: q :: L) := ⟨[x0, x1, x2, x3, x4, x5], L, rfl, rfl⟩
instance (priority := 1993) InL.p7 {L : List Pc} {p : Pc} {x0 x1 x2 x3 x4 x5 x6 : Pc} : InL (x0 :: x1 :: x2 :: x3 :: x4 :: x5 :: x6 :: p :: L) p (fun q => x0 :: x1 :: x2 :: x3 :: x4 :: x5 :: x6 :: q :: L) := ⟨[x0, x1, x2, x3, x4, x5, x6], L, rfl, rfl⟩
instance (priority := 1000) InL.tail {L : List Pc} {p x0 x1 x2 x3 x4 x5 x6 x7 : Pc} {f : Pc → List Pc} [h : InL L p f] : InL (x0 :: x1 :: x2 :: x3 :: x4 :: x5 :: x6 :: x7 :: L) p (fun q => x0 :: x1 :: x2 :: x3 :: x4 :: x5 :: x6 :: x7 :: f q) := by
  obtain ⟨A, B, rfl, rfl⟩ := h.out
  exact ⟨x0 :: x1 :: x2 :: x3 :: x4 :: x5 :: x6 :: x7 :: A, B, rfl, rfl⟩
instance (priority := 500) InL.tail1 {L : List Pc} {p x : Pc} {f : Pc → List Pc} [h : InL L p f] : InL (x :: L) p (fun q => x :: f q) := by
  obtain ⟨A, B, rfl, rfl⟩ := h.out
  exact ⟨x :: A, B, rfl, rfl⟩
theorem Mem.get {w W : World} {L : List Pc} (M : Mem w W L) (p : Pc) {f : Pc → List Pc} [h : InL L p f] : p.lies W w.heap.size := by
  obtain ⟨A, B, rfl, rfl⟩ := h.out
  exact M.lies p (by simp)
/-- One piece is written, and no other. -/
theorem Mem.turn {w W W' : World} {L : List Pc} (M : Mem w W L) {p q : Pc} {f : Pc → List Pc} [h : InL L p f] (hg : W.grownBy W' p.blk) (hq : q.lies W' w.heap.size) (hb : q.blk = p.blk ∨ q.blk = some W.heap.size) : Mem w W' (f q) := by
  obtain ⟨A, B, rfl, rfl⟩ := h.out
  have hp := M.lies p (by simp)
  have ha := List.pairwise_append.1 M.apart
  have hc := List.pairwise_cons.1 ha.2.1
  have keepA : ∀ x ∈ A, x.lies W' w.heap.size := fun x hx => (M.lies x (by simp [hx])).keep fun k hk => hg.block k ((M.lies x (by simp [hx])).lt k hk).2 (fun e => (ha.2.2 x hx p (by simp)) k hk e.symm)
  have keepB : ∀ x ∈ B, x.lies W' w.heap.size := fun x hx => (M.lies x (by simp [hx])).keep fun k hk => hg.block k ((M.lies x (by simp [hx])).lt k hk).2 (fun e => hc.1 x hx k e.symm hk)
  refine ⟨⟨hg.os.trans M.below.os, hg.tape.trans M.below.tape, hg.output.trans M.below.output, Nat.le_trans M.size hg.size, fun k hk => (hg.block k (Nat.lt_of_lt_of_le hk M.size) (fun e => by have := (hp.lt k e.symm).1; omega)).trans (M.below.block k hk)⟩, fun x hx => ?_, ?_⟩
  · rcases List.mem_append.1 hx with h | h
    · exact keepA x h
    · rcases List.mem_cons.1 h with rfl | h
      · exact hq
      · exact keepB x h
  · have apq : ∀ x, (x ∈ A ∨ x ∈ B) → ∀ k, q.blk = some k → x.blk ≠ some k := fun x hx k hk e => by
      rcases hb with hb | hb
      · rcases hx with hx | hx
        · exact ha.2.2 x hx p (by simp) k e (hb ▸ hk)
        · exact hc.1 x hx k (hb ▸ hk) e
      · rw [hb] at hk
        cases hk
        have hl : x.lies W w.heap.size := by rcases hx with hx | hx; exact M.lies x (by simp [hx]); exact M.lies x (by simp [hx])
        have := (hl.lt _ e).2
        omega
    refine List.pairwise_append.2 ⟨ha.1, List.pairwise_cons.2 ⟨fun x hx k hk => apq x (.inr hx) k hk, hc.2⟩, fun x hx y hy k hk e => ?_⟩
    rcases List.mem_cons.1 hy with rfl | hy
    · exact apq x (.inl hx) k e hk
    · exact ha.2.2 x hx y (by simp [hy]) k hk e

/-! ### Sizes, objects, cells: found by instances -/
class Sz (W : World) (n : outParam Nat) : Prop where out : W.heap.size = n
instance (priority := 100) Sz.self {W : World} : Sz W W.heap.size := ⟨rfl⟩
instance (priority := 2000) Sz.alloc {W : World} {n : Nat} {o : Obj} [h : Sz W n] : Sz (W.alloc o) (n + 1) := ⟨by rw [World.size_alloc, h.out]⟩
instance (priority := 2000) Sz.set {W : World} {n : Nat} {p : Addr} {u : Value} [h : Sz W n] : Sz (W.setCell p u) n := ⟨by rw [World.size_setCell, h.out]⟩
instance (priority := 2000) Sz.drew {W : World} {n : Nat} [h : Sz W n] : Sz W.drew n := ⟨h.out⟩
class Nth (l : List Value) (j : Nat) (v : outParam Value) : Prop where out : l[j]? = some v
instance (priority := 2000) Nth.p0 {v : Value} {l : List Value} : Nth (v :: l) 0 v := ⟨rfl⟩
instance (priority := 1999) Nth.p1 {v x0 : Value} {l : List Value} : Nth (x0 :: v :: l) 1 v := ⟨rfl⟩
instance (priority := 1998) Nth.p2 {v x0 x1 : Value} {l : List Value} : Nth (x0 :: x1 :: v :: l) 2 v := ⟨rfl⟩
instance (priority := 1997) Nth.p3 {v x0 x1 x2 : Value} {l : List Value} : Nth (x0 :: x1 :: x2 :: v :: l) 3 v := ⟨rfl⟩
instance (priority := 1996) Nth.p4 {v x0 x1 x2 x3 : Value} {l : List Value} : Nth (x0 :: x1 :: x2 :: x3 :: v :: l) 4 v := ⟨rfl⟩
instance (priority := 1995) Nth.p5 {v x0 x1 x2 x3 x4 : Value} {l : List Value} : Nth (x0 :: x1 :: x2 :: x3 :: x4 :: v :: l) 5 v := ⟨rfl⟩
instance (priority := 1994) Nth.p6 {v x0 x1 x2 x3 x4 x5 : Value} {l : List Value} : Nth (x0 :: x1 :: x2 :: x3 :: x4 :: x5 :: v :: l) 6 v := ⟨rfl⟩
instance (priority := 1993) Nth.p7 {v x0 x1 x2 x3 x4 x5 x6 : Value} {l : List Value} : Nth (x0 :: x1 :: x2 :: x3 :: x4 :: x5 :: x6 :: v :: l) 7 v := ⟨rfl⟩
instance (priority := 1000) Nth.succ {v x0 x1 x2 x3 x4 x5 x6 x7 : Value} {l : List Value} {j : Nat} [h : Nth l j v] : Nth (x0 :: x1 :: x2 :: x3 :: x4 :: x5 :: x6 :: x7 :: l) (j + 8) v := ⟨by simpa using h.out⟩
class SetN (l : List Value) (j : Nat) (u : Value) (l' : outParam (List Value)) : Prop where out : l.set j u = l'
instance (priority := 2000) SetN.p0 {x u : Value} {l : List Value} : SetN (x :: l) 0 u (u :: l) := ⟨rfl⟩
instance (priority := 1999) SetN.p1 {x u x0 : Value} {l : List Value} : SetN (x0 :: x :: l) 1 u (x0 :: u :: l) := ⟨rfl⟩
instance (priority := 1998) SetN.p2 {x u x0 x1 : Value} {l : List Value} : SetN (x0 :: x1 :: x :: l) 2 u (x0 :: x1 :: u :: l) := ⟨rfl⟩
instance (priority := 1997) SetN.p3 {x u x0 x1 x2 : Value} {l : List Value} : SetN (x0 :: x1 :: x2 :: x :: l) 3 u (x0 :: x1 :: x2 :: u :: l) := ⟨rfl⟩
instance (priority := 1996) SetN.p4 {x u x0 x1 x2 x3 : Value} {l : List Value} : SetN (x0 :: x1 :: x2 :: x3 :: x :: l) 4 u (x0 :: x1 :: x2 :: x3 :: u :: l) := ⟨rfl⟩
instance (priority := 1995) SetN.p5 {x u x0 x1 x2 x3 x4 : Value} {l : List Value} : SetN (x0 :: x1 :: x2 :: x3 :: x4 :: x :: l) 5 u (x0 :: x1 :: x2 :: x3 :: x4 :: u :: l) := ⟨rfl⟩
instance (priority := 1994) SetN.p6 {x u x0 x1 x2 x3 x4 x5 : Value} {l : List Value} : SetN (x0 :: x1 :: x2 :: x3 :: x4 :: x5 :: x :: l) 6 u (x0 :: x1 :: x2 :: x3 :: x4 :: x5 :: u :: l) := ⟨rfl⟩
instance (priority := 1993) SetN.p7 {x u x0 x1 x2 x3 x4 x5 x6 : Value} {l : List Value} : SetN (x0 :: x1 :: x2 :: x3 :: x4 :: x5 :: x6 :: x :: l) 7 u (x0 :: x1 :: x2 :: x3 :: x4 :: x5 :: x6 :: u :: l) := ⟨rfl⟩
instance (priority := 1000) SetN.succ {u x0 x1 x2 x3 x4 x5 x6 x7 : Value} {l l2 : List Value} {j : Nat} [h : SetN l j u l2] : SetN (x0 :: x1 :: x2 :: x3 :: x4 :: x5 :: x6 :: x7 :: l) (j + 8) u (x0 :: x1 :: x2 :: x3 :: x4 :: x5 :: x6 :: x7 :: l2) := ⟨by simpa using h.out⟩
/-- The object of a block, and the list with another piece in its place. -/
class Ob (L : List Pc) (b : Nat) (t : outParam TypeId) (vs : outParam (List Value)) (f : outParam (Pc → List Pc)) : Prop where inl : InL L (.obj b t vs) f
instance (priority := 2000) Ob.p0 {L : List Pc} {b : Nat} {t : TypeId} {vs : List Value} : Ob (.obj b t vs :: L) b t vs (fun q => q :: L) := ⟨inferInstance⟩
instance (priority := 1999) Ob.p1 {L : List Pc} {b : Nat} {t : TypeId} {vs : List Value} {x0 : Pc} : Ob (x0 :: .obj b t vs :: L) b t vs (fun q => x0 :: q :: L) := ⟨inferInstance⟩
instance (priority := 1998) Ob.p2 {L : List Pc} {b : Nat} {t : TypeId} {vs : List Value} {x0 x1 : Pc} : Ob (x0 :: x1 :: .obj b t vs :: L) b t vs (fun q => x0 :: x1 :: q :: L) := ⟨inferInstance⟩
instance (priority := 1997) Ob.p3 {L : List Pc} {b : Nat} {t : TypeId} {vs : List Value} {x0 x1 x2 : Pc} : Ob (x0 :: x1 :: x2 :: .obj b t vs :: L) b t vs (fun q => x0 :: x1 :: x2 :: q :: L) := ⟨inferInstance⟩
instance (priority := 1996) Ob.p4 {L : List Pc} {b : Nat} {t : TypeId} {vs : List Value} {x0 x1 x2 x3 : Pc} : Ob (x0 :: x1 :: x2 :: x3 :: .obj b t vs :: L) b t vs (fun q => x0 :: x1 :: x2 :: x3 :: q :: L) := ⟨inferInstance⟩
instance (priority := 1995) Ob.p5 {L : List Pc} {b : Nat} {t : TypeId} {vs : List Value} {x0 x1 x2 x3 x4 : Pc} : Ob (x0 :: x1 :: x2 :: x3 :: x4 :: .obj b t vs :: L) b t vs (fun q => x0 :: x1 :: x2 :: x3 :: x4 :: q :: L) := ⟨inferInstance⟩
instance (priority := 1994) Ob.p6 {L : List Pc} {b : Nat} {t : TypeId} {vs : List Value} {x0 x1 x2 x3 x4 x5 : Pc} : Ob (x0 :: x1 :: x2 :: x3 :: x4 :: x5 :: .obj b t vs :: L) b t vs (fun q => x0 :: x1 :: x2 :: x3 :: x4 :: x5 :: q :: L) := ⟨inferInstance⟩
instance (priority := 1993) Ob.p7 {L : List Pc} {b : Nat} {t : TypeId} {vs : List Value} {x0 x1 x2 x3 x4 x5 x6 : Pc} : Ob (x0 :: x1 :: x2 :: x3 :: x4 :: x5 :: x6 :: .obj b t vs :: L) b t vs (fun q => x0 :: x1 :: x2 :: x3 :: x4 :: x5 :: x6 :: q :: L) := ⟨inferInstance⟩
instance (priority := 1000) Ob.tail {L : List Pc} {b : Nat} {t : TypeId} {vs : List Value} {x0 x1 x2 x3 x4 x5 x6 x7 : Pc} {f : Pc → List Pc} [h : Ob L b t vs f] : Ob (x0 :: x1 :: x2 :: x3 :: x4 :: x5 :: x6 :: x7 :: L) b t vs (fun q => x0 :: x1 :: x2 :: x3 :: x4 :: x5 :: x6 :: x7 :: f q) := by
  have := h.inl
  exact ⟨inferInstance⟩
instance (priority := 500) Ob.tail1 {L : List Pc} {b : Nat} {t : TypeId} {vs : List Value} {x : Pc} {f : Pc → List Pc} [h : Ob L b t vs f] : Ob (x :: L) b t vs (fun q => x :: f q) := by
  have := h.inl
  exact ⟨inferInstance⟩
theorem Ob.out {L : List Pc} {b : Nat} {t : TypeId} {vs : List Value} {f : Pc → List Pc} (h : Ob L b t vs f) : Pc.obj b t vs ∈ L := by
  obtain ⟨A, B, rfl, _⟩ := h.inl.out
  simp
class HasCell (W : World) (b j : Nat) (v : outParam Value) : Prop where out : W.cell? ⟨b, j, none⟩ = some v
instance HasCell.of {w W : World} {L : List Pc} {b j : Nat} {t : TypeId} {vs : List Value} {v : Value} {f : Pc → List Pc} [M : Mem w W L] [h : Ob L b t vs f] [k : Nth vs j v] : HasCell W b j v := ⟨(M.lies _ h.out).2.cell j k.out⟩
theorem cell_of {W : World} {b j : Nat} {v : Value} [h : HasCell W b j v] : W.cell? ⟨b, j, none⟩ = some v := h.out
class Thawed (W : World) (b : Nat) : Prop where out : ∀ j, W.frozen? ⟨b, j, none⟩ = false
instance Thawed.of {w W : World} {L : List Pc} {b : Nat} {t : TypeId} {vs : List Value} {f : Pc → List Pc} [M : Mem w W L] [h : Ob L b t vs f] : Thawed W b := ⟨fun j => (M.lies _ h.out).2.frozen j⟩
theorem frozen_of {W : World} {b j : Nat} [h : Thawed W b] : W.frozen? ⟨b, j, none⟩ = false := h.out j
instance (priority := 2000) Mem.alloc {w W : World} {L : List Pc} {n : Nat} {t : TypeId} {vs : List Value} [M : Mem w W L] [h : Sz W n] : Mem w (W.alloc (.cells vs.toArray t)) (.obj n t vs :: L) := by
  rw [← h.out]
  refine M.more1 ⟨(Below.refl _ _).alloc (Nat.le_refl _) _, fun p hp => ?_, List.pairwise_singleton _ _⟩
  cases List.mem_singleton.1 hp
  exact ⟨Nat.le_refl _, HasObj.new _ _ _⟩
instance (priority := 2000) Mem.set {w W : World} {L : List Pc} {b j : Nat} {t : TypeId} {vs vs' : List Value} {u : Value} {f : Pc → List Pc} [M : Mem w W L] [h : Ob L b t vs f] [k : SetN vs j u vs'] : Mem w (W.setCell ⟨b, j, none⟩ u) (f (.obj b t vs')) := by
  have hp := M.lies _ h.out
  have := h.inl
  rw [← k.out]
  exact M.turn (p := .obj b t vs) (g_store (g_self W (some b)) u) ⟨hp.1, hp.2.set j u⟩ (.inl rfl)
instance (priority := 2000) Mem.drew {w W : World} {L : List Pc} [M : Mem w W L] : Mem w W.drew L := ⟨M.below.drew, M.lies, M.apart⟩
/-- The fact at the world where the walk stands. -/
theorem Mem.here {w : World} (W : World) {L : List Pc} [M : Mem w W L] : Below w.heap.size w W := M.below
class App (A B : List Pc) (C : outParam (List Pc)) : Prop where out : A ++ B = C
instance App.nil {B : List Pc} : App [] B B := ⟨rfl⟩
instance App.cons {A B C : List Pc} {x : Pc} [h : App A B C] : App (x :: A) B (x :: C) := ⟨by rw [List.cons_append, h.out]⟩
theorem Mem.then {w W W' : World} {L L' K : List Pc} (hM : Mem W W' L') [M : Mem w W L] [k : App L' L K] : Mem w W' K := k.out ▸ M.more hM
theorem Mem.end {w W : World} {L L' : List Pc} [M : Mem w W L] [h : SubL L' L] : Mem w W L' := M.part h.out
theorem Mem.go {w W W' : World} {L : List Pc} (hM : Below W.heap.size W W') [M : Mem w W L] : Mem w W' L := M.more0 hM
end Go.Proofs.YtihdgfihdecalaaGreatDoor
