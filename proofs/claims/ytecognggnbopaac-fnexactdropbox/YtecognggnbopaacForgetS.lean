/- The specification's ForgetTombs. Made by gen_forget.py. -/
import Derived.Test.YtecognggnbopaacBoxOkS
import Derived.Test.YtecognggnbopaacBoxCopyS
import Derived.Test.YtecognggnbopaacRowsA
import Derived.Test.YtecognggnbopaacRegA
import Derived.Deep.AppendLies
namespace Go.Proofs.Ytecognggnbopaac
open Go.RowKit
open Plain
set_option linter.unusedVariables false
set_option linter.unusedSimpArgs false

theorem below_z {w W W' : World} (h : Below w.heap.size w W) (hb : Below W.heap.size W W') : Below w.heap.size w W' := h.trans (hb.mono h.size)
namespace Plain
def leftL (b : Bx) (upto : Int) : List Tb := b.tombs.filter (fun t => decide (upto < t.mod))
def leftTo (b : Bx) (upto : Int) (k : Nat) : List Tb := (b.tombs.take k).filter (fun t => decide (upto < t.mod))
def forgot (b : Bx) (upto : Int) : Bx := { b with tombs := leftL b upto, hor := if b.hor < upto then upto else b.hor }
def forgetV (b : Bx) (upto : Int) : Bx := if boxOk b = true ∧ inI upto 0 b.mod = true then forgot b upto else b
theorem forgetV_no1 {b : Bx} {upto : Int} (h : boxOk b = false) : forgetV b upto = b := if_neg (fun x => by rw [h] at x; cases x.1)
theorem forgetV_no2 {b : Bx} {upto : Int} (h : inI upto 0 b.mod = false) : forgetV b upto = b := if_neg (fun x => by rw [h] at x; cases x.2)
theorem forgetV_yes {b : Bx} {upto : Int} (h1 : boxOk b = true) (h2 : inI upto 0 b.mod = true) : forgetV b upto = forgot b upto := if_pos ⟨h1, h2⟩
theorem left_all (b : Bx) (upto : Int) : leftTo b upto b.tombs.length = leftL b upto := by unfold leftTo leftL; rw [List.take_length]
theorem left_yes {b : Bx} {upto : Int} {k : Nat} {t : Tb} (h : b.tombs[k]? = some t) (ht : upto < t.mod) : leftTo b upto (k + 1) = leftTo b upto k ++ [t] := by
  unfold leftTo
  rw [List.take_add_one, h, List.filter_append]
  simp [ht]
theorem left_no {b : Bx} {upto : Int} {k : Nat} {t : Tb} (h : b.tombs[k]? = some t) (ht : ¬ upto < t.mod) : leftTo b upto (k + 1) = leftTo b upto k := by
  unfold leftTo
  rw [List.take_add_one, h, List.filter_append]
  simp [ht]
theorem left_len (b : Bx) (upto : Int) (k : Nat) : (leftTo b upto k).length ≤ b.tombs.length := by
  unfold leftTo
  refine Nat.le_trans (List.length_filter_le _ _) ?_
  rw [List.length_take]
  omega
end Plain
end Go.Proofs.Ytecognggnbopaac
