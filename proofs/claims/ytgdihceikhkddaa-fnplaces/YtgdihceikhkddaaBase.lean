/- Rows of bytes that a call makes, and strings out of them. -/
import Derived.Test.YtgdihceikhkddaaProg
import Derived.Test.YtgdihceikhkddaaPlainA
import Derived.WalkKit
import Derived.WalkSpells
import Derived.ProofKit
import Derived.Handy
import Derived.Laws.IdiomStrings
namespace Go.Proofs.Ytgdihceikhkddaa
open Go.RowKit
open Plain
set_option linter.unusedVariables false

end Go.Proofs.Ytgdihceikhkddaa
