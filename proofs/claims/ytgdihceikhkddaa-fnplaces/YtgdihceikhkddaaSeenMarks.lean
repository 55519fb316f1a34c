/- Rows of Seens that are the same; marks in them. Made by gen_rows.py. -/
import Derived.Test.YtgdihceikhkddaaSeenRow
namespace Go.Proofs.Ytgdihceikhkddaa
open Go.RowKit
open Plain
set_option linter.unusedVariables false

namespace Plain
end Plain
end Go.Proofs.Ytgdihceikhkddaa
