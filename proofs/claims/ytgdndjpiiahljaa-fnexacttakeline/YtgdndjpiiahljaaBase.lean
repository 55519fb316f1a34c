/- Rows of bytes that a call makes, and strings out of them. -/
import Derived.Test.YtgdndjpiiahljaaProg
import Derived.Test.YtgdndjpiiahljaaPlainA
import Derived.WalkKit
import Derived.WalkSpells
import Derived.ProofKit
import Derived.Handy
import Derived.Laws.IdiomStrings
namespace Go.Proofs.Ytgdndjpiiahljaa
open Go.RowKit
open Plain
set_option linter.unusedVariables false

end Go.Proofs.Ytgdndjpiiahljaa
