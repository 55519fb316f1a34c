/- Figures read back: what the specification's Unhex answers. -/
import Derived.Test.YtbllfkgmnajliaaDoorHexImpl
import Derived.Test.YtbllfkgmnajliaaDoorUnPlain
import Derived.Deep.LoopGhost
import Derived.Deep.QuietTactic
import Derived.BigQuiet
import Derived.WalkSmall
namespace Go.Proofs.YtbllfkgmnajliaaDoor
open Go.RowKit
open Plain
set_option linter.unusedVariables false

end Go.Proofs.YtbllfkgmnajliaaDoor
