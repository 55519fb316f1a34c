/- What the functions of chapter 9 answer, plainly. -/
import Derived.Test.YtecognggnbopaacStorePlain
import Derived.Test.YtecognggnbopaacAddMailS
import Derived.Test.YtecognggnbopaacSetA
namespace Go.Proofs.Ytecognggnbopaac
open Plain
theorem OwnR.drew {B : Nat} {W : World} {v : Value} {l : List Rg} (h : OwnR B W v l) : OwnR B W.drew v l := h
end Go.Proofs.Ytecognggnbopaac
namespace Go.Proofs.Ytecognggnbopaac.Plain
open Go.RowKit
set_option linter.unusedVariables false

def inboxN : ByteArray := ⟨#[105, 110, 98, 111, 120]⟩
def madeL (l : List Bx) (n : ByteArray) (v : Int) : List Bx := l.filter (fun b => ltB b.name n) ++ newBox n v :: l.filter (fun b => ltB n b.name)
def makeV (s : Sx) (n : ByteArray) : Sx × Int :=
  if storeOk s = false ∨ nameOkL n.data.toList = false then (s, 4)
  else if (boxAt s n).isSome = true then (s, 2)
  else if 4 ≤ s.boxes.length ∨ 9999 ≤ s.valid then (s, 3)
  else (⟨madeL s.boxes n s.valid, s.valid + 1⟩, 0)
def dropL (l : List Bx) (n : ByteArray) : List Bx := l.filter fun b => !sameN n b
def dropV (s : Sx) (n : ByteArray) : Sx × Int :=
  if storeOk s = false ∨ n = inboxN then (s, 4)
  else if (boxAt s n).isSome = false then (s, 1)
  else if dropL s.boxes n = [] then (s, 4)
  else (⟨dropL s.boxes n, s.valid⟩, 0)
def addAll (b : Bx) : List Ml → Option Bx
  | [] => some b
  | m :: l => if (addV b m.flags m.text).2 = 0 then none else addAll (addV b m.flags m.text).1 l
def inSet (set : List Rg) (b : Bx) : List Ml := b.mails.filter fun m => hasB set m.uid
def copyV (s : Sx) (f : ByteArray) (set : List Rg) (n : ByteArray) : Sx × Int :=
  if storeOk s = false ∨ okS set = false then (s, 4)
  else match boxAt s f, boxAt s n with
    | some a, some b => match addAll b (inSet set a) with
      | some b' => (putSt s b', 0)
      | none => (s, 3)
    | _, _ => (s, 1)
end Go.Proofs.Ytecognggnbopaac.Plain
