/- A row of files in a box, appended to again and again. -/
import Derived.Test.YtnlcknklghalkaaCopied
import Derived.Test.YtnlcknklghalkaaLate
import Derived.Deep.AppendLies
namespace Go.Proofs.Ytnlcknklghalkaa
open Go.RowKit
open Plain
set_option linter.unusedVariables false

theorem fcs_oneF (f : Fl) : fcs [f] = fc f := by simp [fcs]
theorem one3F (f : Fl) : ∀ u ∈ fc f, u.oneCell' = true := by
  intro u hu
  simp [fc] at hu
  rcases hu with rfl | rfl | rfl <;> rfl
theorem cell_on {w w' : World} {p : Addr} {v : Value} (hb : Below w.heap.size w w') (h : w.cell? p = some v) : w'.cell? p = some v := (hb.cell (World.block_lt_of_cell? w p h)).trans h

/-- A row in the box bo, appended to: what is carried from round to round. -/
def Box (W : World) (bo : Nat) (wr : World) (ov : Value) (l : List Fl) : Prop :=
  wr.heap[bo]? = some (.cells #[ov] 26 (0, 0)) ∧ OwnF W.heap.size wr ov l ∧ W.grownBy wr (some bo)
theorem Box.cell {W wr : World} {bo : Nat} {ov : Value} {l : List Fl} (h : Box W bo wr ov l) : wr.cell? ⟨bo, 0, none⟩ = some ov := cell_of_row wr bo 0 _ _ (0, 0) h.1
theorem Box.frozen {W wr : World} {bo : Nat} {ov : Value} {l : List Fl} (h : Box W bo wr ov l) : wr.frozen? ⟨bo, 0, none⟩ = false := frozen_of_row wr bo 0 _ _ h.1
theorem Box.old {W wr : World} {bo : Nat} {ov : Value} {l : List Fl} (h : Box W bo wr ov l) {p : Addr} (hp : p.block < W.heap.size) (hne : p.block ≠ bo) : wr.cell? p = W.cell? p :=
  World.cell?_of_block (h.2.2.block p.block hp (by intro e; exact hne (Option.some.inj e)))
theorem Box.ne {W wr : World} {bo : Nat} {ov : Value} {l : List Fl} (h : Box W bo wr ov l) {b : Nat} (hb : b < W.heap.size) : some b ≠ ov.ownBlock := fun e => by have := World.ownsRow.lt h.2.1 b e.symm; omega
theorem Box.drew {W wr : World} {bo : Nat} {ov : Value} {l : List Fl} (h : Box W bo wr ov l) (q : Nat) : Box W bo (wr.drewN q) ov l := ⟨h.1, h.2.1, ⟨h.2.2.os, h.2.2.tape, h.2.2.output, h.2.2.size, h.2.2.block⟩⟩
theorem Box.start {W : World} {bo : Nat} (h : W.heap[bo]? = some (.cells #[.slice none 0 0] 26 (0, 0))) : Box W bo W (.slice none 0 0) [] :=
  ⟨h, World.ownsRow_nil _ _ _ _, ⟨rfl, rfl, rfl, Nat.le_refl _, fun _ _ _ => rfl⟩⟩
theorem Box.on {W wr w' : World} {bo : Nat} {ov : Value} {l : List Fl} (h : Box W bo wr ov l) (hb : Below wr.heap.size wr w') (hbo : bo < wr.heap.size) : Box W bo w' ov l :=
  ⟨(hb.block bo hbo).trans h.1, own_stays h.2.1 hb, ⟨hb.os.trans h.2.2.os, hb.tape.trans h.2.2.tape, hb.output.trans h.2.2.output, Nat.le_trans h.2.2.size hb.size, fun k hk hne => (hb.block k (Nat.lt_of_lt_of_le hk h.2.2.size)).trans (h.2.2.block k hk hne)⟩⟩
theorem Box.below {W wr : World} {bo : Nat} {ov : Value} {l : List Fl} (h : Box W bo wr ov l) {w : World} {B : Nat} (hb : Below B w W) (hB : B ≤ bo) (hBW : B ≤ W.heap.size) : Below B w wr :=
  hb.grown h.2.2 hBW (fun k e => by have := Option.some.inj e; omega)
/-- Behind an append, and the store into the box. -/
theorem Box.appended {W wr w4 w5 : World} {bo : Nat} {ov v' : Value} {l : List Fl} {f : Fl} {o : Obj} (h : Box W bo wr ov l) (hbo : bo < W.heap.size) (hb : Below wr.heap.size wr w4)
    (h5 : w5.ownsRow W.heap.size 55 3 v' (l.length + 1) (fcs l ++ fc f)) (hg : (w4.alloc o).grownBy w5 ov.ownBlock) :
    Box W bo (w5.setCell ⟨bo, 0, none⟩ v') v' (l ++ [f]) ∧ w5.cell? ⟨bo, 0, none⟩ = some ov ∧ w5.frozen? ⟨bo, 0, none⟩ = false := by
  have s0 := h.2.2.size
  have s2 := hb.size
  have s3 : w4.heap.size + 1 ≤ w5.heap.size := by have := hg.size; simpa using this
  have hne := h.ne hbo
  have hr : w5.heap[bo]? = some (.cells #[ov] 26 (0, 0)) := (hg.block bo (by simp; omega) hne).trans ((Below.heap_alloc _ _ _ (by omega)).trans ((hb.block bo (by omega)).trans h.1))
  refine ⟨⟨set1 v' hr, ?_, ?_⟩, cell_of_row w5 bo 0 _ _ (0, 0) hr, frozen_of_row w5 bo 0 _ _ hr⟩
  · unfold OwnF
    rw [List.length_append, fcs_append, fcs_oneF]
    exact ownsRow_setCell_below h5 (a := ⟨bo, 0, none⟩) hbo v'
  · refine ⟨hg.os.trans (hb.os.trans h.2.2.os), hg.tape.trans (hb.tape.trans h.2.2.tape), hg.output.trans (hb.output.trans h.2.2.output), by simp; omega, fun q hq hn => ?_⟩
    rw [Below.heap_setCell _ _ _ q (fun e => hn (by rw [e])), hg.block q (by simp; omega) (h.ne hq), Below.heap_alloc _ _ _ (by omega), hb.block q (by omega), h.2.2.block q hq hn]
end Go.Proofs.Ytnlcknklghalkaa
