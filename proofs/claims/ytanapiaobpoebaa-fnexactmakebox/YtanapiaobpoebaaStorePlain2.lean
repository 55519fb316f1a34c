/- What the functions of chapter 9 answer, plainly. -/
import Derived.Test.YtanapiaobpoebaaStorePlain
import Derived.Test.YtanapiaobpoebaaAddMailS
import Derived.Test.YtanapiaobpoebaaSetA
namespace Go.Proofs.Ytanapiaobpoebaa
open Plain
theorem OwnR.drew {B : Nat} {W : World} {v : Value} {l : List Rg} (h : OwnR B W v l) : OwnR B W.drew v l := h
end Go.Proofs.Ytanapiaobpoebaa
namespace Go.Proofs.Ytanapiaobpoebaa.Plain
open Go.RowKit
set_option linter.unusedVariables false

def madeL (l : List Bx) (n : ByteArray) (v : Int) : List Bx := l.filter (fun b => ltB b.name n) ++ newBox n v :: l.filter (fun b => ltB n b.name)
def makeV (s : Sx) (n : ByteArray) : Sx × Int :=
 if storeOk s = false ∨ nameOkL n.data.toList = false then (s, 4)
 else if (boxAt s n).isSome = true then (s, 2)
 else if 4 ≤ s.boxes.length ∨ 9999 ≤ s.valid then (s, 3)
 else (⟨madeL s.boxes n s.valid, s.valid + 1⟩, 0)
end Go.Proofs.Ytanapiaobpoebaa.Plain
