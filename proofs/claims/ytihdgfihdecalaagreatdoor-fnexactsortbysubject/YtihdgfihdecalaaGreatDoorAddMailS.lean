/- The specification's BoxNew and AddMail. Made by gen_addmail.py. -/
import Derived.Test.YtihdgfihdecalaaGreatDoorBoxOkS
import Derived.Test.YtihdgfihdecalaaGreatDoorBoxCopyS
import Derived.Test.YtihdgfihdecalaaGreatDoorRowsA
namespace Go.Proofs.YtihdgfihdecalaaGreatDoor
open Go.RowKit
open Plain
set_option linter.unusedVariables false

namespace Plain
def added (b : Bx) (flags : Int) (text : ByteArray) : Bx := { b with mod := b.mod + 1, next := b.next + 1, mails := b.mails ++ [⟨b.next, flags, b.mod + 1, text⟩] }
end Plain
end Go.Proofs.YtihdgfihdecalaaGreatDoor
