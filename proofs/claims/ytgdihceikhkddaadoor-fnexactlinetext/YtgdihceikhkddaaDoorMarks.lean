/- Rows of strings: what the laws' own helpers do to them. -/
import Derived.Test.YtgdihceikhkddaaDoorBase
import Derived.Test.YtgdihceikhkddaaDoorPlainA
import Derived.Deep.RegionHeld3
import Derived.Deep.QuietTactic
import Derived.BigQuiet
import Derived.WalkSmall
namespace Go.Proofs.YtgdihceikhkddaaDoor
open Go.RowKit
open Plain
set_option linter.unusedVariables false

end Go.Proofs.YtgdihceikhkddaaDoor
