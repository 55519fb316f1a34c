/- The specification's l08Copy. Made by gen_boxcopy.py. -/
import Derived.Test.YtihdgfihdecalaaGreatDoorBoxNameS
import Derived.Test.YtihdgfihdecalaaGreatDoorRowsA
namespace Go.Proofs.YtihdgfihdecalaaGreatDoor
open Go.RowKit
open Plain
set_option linter.unusedVariables false

namespace Plain
end Plain
end Go.Proofs.YtihdgfihdecalaaGreatDoor
