/- Plain facts on figures read back. Nothing of the program stands here. -/
import Derived.Test.YtgdihceikhkddaaPlainA
import Derived.Laws.OwnMore
namespace Go.Proofs.Ytgdihceikhkddaa.Plain
open Go.RowKit

/-- A byte is a figure. -/
def isF (x : Nat) : Bool := decide (48 ≤ x ∧ x ≤ 57 ∨ 97 ≤ x ∧ x ≤ 102)
def ab (l : List UInt8) (k : Nat) : Nat := (l.getD k 0).toNat
/-- All below k are figures. -/
def Figs (l : List UInt8) (k : Nat) : Prop := ∀ i, i < k → isF (ab l i) = true
theorem Figs.zero (l : List UInt8) : Figs l 0 := fun i h => by omega
theorem Figs.succ {l : List UInt8} {k : Nat} (h : Figs l k) (hk : isF (ab l k) = true) : Figs l (k + 1) := fun i hi => by
 by_cases e : i = k
 ·rw [e]; exact hk
 ·exact h i (by omega)
end Go.Proofs.Ytgdihceikhkddaa.Plain
