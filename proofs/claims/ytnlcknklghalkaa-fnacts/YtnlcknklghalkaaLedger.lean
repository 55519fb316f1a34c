/- What is known of boxes and rows, carried on over calls. -/
import Derived.Test.YtnlcknklghalkaaFilesMarks
import Derived.Test.YtnlcknklghalkaaInts
namespace Go.Proofs.Ytnlcknklghalkaa
open Go.RowKit
open Plain
set_option linter.unusedVariables false

theorem cell_up {w w' : World} {p : Addr} {v : Value} (h : w.cell? p = some v) (hb : Below w.heap.size w w') : w'.cell? p = some v := (hb.cell (World.block_lt_of_cell? w p h)).trans h
theorem OwnF.up {B : Nat} {w w' : World} {v : Value} {l : List Fl} (h : OwnF B w v l) (hb : Below w.heap.size w w') : OwnF B w' v l := own_stays h hb
theorem OwnI.up {B : Nat} {w w' : World} {v : Value} {l : List Int} (h : OwnI B w v l) (hb : Below w.heap.size w w') : OwnI B w' v l := own_stays h hb
theorem OwnF.range {B : Nat} {w : World} {v : Value} {l : List Fl} (h : OwnF B w v l) : ∀ b, v.ownBlock = some b → B ≤ b ∧ b < w.heap.size := World.ownsRow.lt h
theorem OwnI.range {B : Nat} {w : World} {v : Value} {l : List Int} (h : OwnI B w v l) : ∀ b, v.ownBlock = some b → B ≤ b ∧ b < w.heap.size := World.ownsRow.lt h
theorem cell_aside {w w' : World} {b lo hi : Nat} {u x : Value} (h : w.cell? ⟨b, 0, none⟩ = some x) (hg : w.grownBy w' u.ownBlock) (h2 : ∀ b, u.ownBlock = some b → lo ≤ b ∧ b < hi) (hd : b < lo ∨ hi ≤ b) : w'.cell? ⟨b, 0, none⟩ = some x :=
  hg.cell h (fun e => by have := h2 b e.symm; omega)
theorem OwnF.aside {B lo hi lo' hi' : Nat} {w w' : World} {v u : Value} {l : List Fl} (h : OwnF B w v l) (hg : w.grownBy w' u.ownBlock) (h1 : ∀ b, v.ownBlock = some b → lo ≤ b ∧ b < hi) (h2 : ∀ b, u.ownBlock = some b → lo' ≤ b ∧ b < hi') (hd : hi ≤ lo' ∨ hi' ≤ lo) : OwnF B w' v l := by
  refine World.ownsRow.kept h hg ?_
  cases hv : v.ownBlock with
  | none => exact .inl rfl
  | some b => exact .inr fun e => by have a1 := h1 b hv; have a2 := h2 b e.symm; omega
theorem OwnI.aside {B lo hi lo' hi' : Nat} {w w' : World} {v u : Value} {l : List Int} (h : OwnI B w v l) (hg : w.grownBy w' u.ownBlock) (h1 : ∀ b, v.ownBlock = some b → lo ≤ b ∧ b < hi) (h2 : ∀ b, u.ownBlock = some b → lo' ≤ b ∧ b < hi') (hd : hi ≤ lo' ∨ hi' ≤ lo) : OwnI B w' v l := by
  refine World.ownsRow.kept h hg ?_
  cases hv : v.ownBlock with
  | none => exact .inl rfl
  | some b => exact .inr fun e => by have a1 := h1 b hv; have a2 := h2 b e.symm; omega
theorem below_aside {w w1 w2 : World} {B lo hi : Nat} {u : Value} (hb : Below B w w1) (hg : w1.grownBy w2 u.ownBlock) (h2 : ∀ b, u.ownBlock = some b → lo ≤ b ∧ b < hi) (hB : B ≤ lo) (hs : B ≤ w1.heap.size) : Below B w w2 :=
  ⟨hg.os.trans hb.os, hg.tape.trans hb.tape, hg.output.trans hb.output, Nat.le_trans hb.size hg.size, fun k hk => (hg.block k (by omega) (fun e => by have := h2 k e.symm; omega)).trans (hb.block k hk)⟩
theorem range_wide {v : Value} {lo hi hi' : Nat} (h : ∀ b, v.ownBlock = some b → lo ≤ b ∧ b < hi) (hl : hi ≤ hi') : ∀ b, v.ownBlock = some b → lo ≤ b ∧ b < hi' := fun b hb => ⟨(h b hb).1, by have := (h b hb).2; omega⟩
end Go.Proofs.Ytnlcknklghalkaa
