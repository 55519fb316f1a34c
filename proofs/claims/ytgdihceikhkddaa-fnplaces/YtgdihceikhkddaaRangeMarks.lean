/- Rows of ranges that are the same; marks in a row of ranges. -/
import Derived.Test.YtgdihceikhkddaaSetA
import Derived.Test.YtgdihceikhkddaaRegA
namespace Go.Proofs.Ytgdihceikhkddaa
open Go.RowKit
open Plain
set_option linter.unusedVariables false

end Go.Proofs.Ytgdihceikhkddaa
