/- Flags: the program's smallLetters. -/
import Derived.Test.YthnofckkehephaaGreatDoorFlagA
import Derived.Test.YthnofckkehephaaGreatDoorFlagNames
namespace Go.Proofs.YthnofckkehephaaGreatDoor
open Go.RowKit
open Plain
set_option linter.unusedVariables false

end Go.Proofs.YthnofckkehephaaGreatDoor
