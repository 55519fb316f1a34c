/- The ledger of the laws on boxes: what every step carries on. -/
import Derived.Test.YtkjlponggednoacBoxMarks
namespace Go.Proofs.Ytkjlponggednoac
open Go.RowKit
open Plain
set_option linter.unusedVariables false

theorem HasObj.drew {W : World} {b : Nat} {t : TypeId} {vs : List Value} (h : HasObj W b t vs) : HasObj W.drew b t vs := h
theorem OwnBx.drew {B : Nat} {W : World} {m t : Value} {b : Bx} (h : OwnBx B W m t b) : OwnBx B W.drew m t b := ⟨h.1, h.2⟩
theorem OwnMl.drew {B : Nat} {W : World} {v : Value} {l : List Ml} (h : OwnMl B W v l) : OwnMl B W.drew v l := h
theorem OwnTb.drew {B : Nat} {W : World} {v : Value} {l : List Tb} (h : OwnTb B W v l) : OwnTb B W.drew v l := h
theorem below_y {w W W' : World} (h : Below w.heap.size w W) (hb : Below W.heap.size W W') : Below w.heap.size w W' := h.trans (hb.mono h.size)
end Go.Proofs.Ytkjlponggednoac
