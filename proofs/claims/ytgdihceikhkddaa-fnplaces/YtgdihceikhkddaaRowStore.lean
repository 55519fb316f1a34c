/- A mail, stored whole into a row of one's own. -/
import Derived.Test.YtgdihceikhkddaaBoxA
import Derived.Test.YtgdihceikhkddaaBoxP
namespace Go.Proofs.Ytgdihceikhkddaa
open Go.RowKit
open Plain
set_option linter.unusedVariables false

end Go.Proofs.Ytgdihceikhkddaa
