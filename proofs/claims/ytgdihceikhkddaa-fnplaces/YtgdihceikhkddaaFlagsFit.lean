/- Flags of those that are told change, plainly: all at once. Nothing of the program stands here. -/
import Derived.Test.YtgdihceikhkddaaBoxP
namespace Go.Proofs.Ytgdihceikhkddaa.Plain
open Go.RowKit
set_option linter.unusedVariables false

end Go.Proofs.Ytgdihceikhkddaa.Plain
