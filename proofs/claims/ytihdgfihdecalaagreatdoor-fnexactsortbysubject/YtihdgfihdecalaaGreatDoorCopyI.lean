/- Boxes: the program's copiedMail, opened, box and copiedBox. Made by gen_copyi.py. -/
import Derived.Test.YtihdgfihdecalaaGreatDoorBoxA
import Derived.Test.YtihdgfihdecalaaGreatDoorRowsA
import Derived.Test.YtihdgfihdecalaaGreatDoorBoxP
import Derived.Test.YtihdgfihdecalaaGreatDoorBoxCopyS
import Derived.Test.YtihdgfihdecalaaGreatDoorIntRow
import Derived.Test.YtihdgfihdecalaaGreatDoorCloneI
import Derived.Test.YtihdgfihdecalaaGreatDoorRegA
namespace Go.Proofs.YtihdgfihdecalaaGreatDoor
open Go.RowKit
open Plain
set_option linter.unusedVariables false
set_option linter.unusedSimpArgs false

namespace Plain
end Plain
end Go.Proofs.YtihdgfihdecalaaGreatDoor
