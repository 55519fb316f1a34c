/- Boxes: the program's forget and ForgetTombs. Made by gen_forgeti.py. -/
import Derived.Test.YtecognggnbopaacDeleteI
import Derived.Test.YtecognggnbopaacBoxI
import Derived.Test.YtecognggnbopaacForgetS
namespace Go.Proofs.Ytecognggnbopaac
open Go.RowKit
open Plain
set_option linter.unusedVariables false
set_option linter.unusedSimpArgs false

theorem GrownBut.drew {w w' : World} {S : Nat → Prop} (h : GrownBut w w' S) : GrownBut w w'.drew S := ⟨h.os, h.tape, h.output, h.size, h.block⟩
end Go.Proofs.Ytecognggnbopaac
