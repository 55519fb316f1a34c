/- The specification's BoxNew and AddMail. Made by gen_addmail.py. -/
import Derived.Test.YtfemplekibpfoabBoxOkS
import Derived.Test.YtfemplekibpfoabBoxCopyS
import Derived.Test.YtfemplekibpfoabRowsA
namespace Go.Proofs.Ytfemplekibpfoab
open Go.RowKit
open Plain
set_option linter.unusedVariables false

theorem below_x {w W W' : World} (h : Below w.heap.size w W) (hb : Below W.heap.size W W') : Below w.heap.size w W' := h.trans (hb.mono h.size)
theorem g_stays0 {W W' : World} {b : Nat} {t : TypeId} {vs : List Value} (h : HasObj W b t vs) (hb : Below W.heap.size W W') : HasObj W' b t vs := h.ups hb
namespace Plain
def noBox : Bx := ⟨⟨#[]⟩, 0, 0, 0, [], [], 0⟩
def newBox (name : ByteArray) (valid : Int) : Bx := ⟨name, valid, 1, 1, [], [], 0⟩
def newV (name : ByteArray) (valid : Int) : Bx × Bool := if boxOk (newBox name valid) = true then (newBox name valid, true) else (noBox, false)
def added (b : Bx) (flags : Int) (text : ByteArray) : Bx := { b with mod := b.mod + 1, next := b.next + 1, mails := b.mails ++ [⟨b.next, flags, b.mod + 1, text⟩] }
def addV (b : Bx) (flags : Int) (text : ByteArray) : Bx × Int := if boxOk b = true ∧ boxOk (added b flags text) = true then (added b flags text, b.next) else (b, 0)
theorem addV_no1 {b : Bx} {flags : Int} {text : ByteArray} (h : boxOk b = false) : addV b flags text = (b, 0) := if_neg (fun x => by rw [h] at x; cases x.1)
theorem addV_no2 {b : Bx} {flags : Int} {text : ByteArray} (h : boxOk (added b flags text) = false) : addV b flags text = (b, 0) := if_neg (fun x => by rw [h] at x; cases x.2)
theorem addV_yes {b : Bx} {flags : Int} {text : ByteArray} (h1 : boxOk b = true) (h2 : boxOk (added b flags text) = true) : addV b flags text = (added b flags text, b.next) := if_pos ⟨h1, h2⟩
end Plain
end Go.Proofs.Ytfemplekibpfoab
