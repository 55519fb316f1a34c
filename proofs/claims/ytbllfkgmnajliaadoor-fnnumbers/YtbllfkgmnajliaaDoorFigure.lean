/- A figure: what spec.l01Figure answers. -/
import Derived.Test.YtbllfkgmnajliaaDoorBase
import Derived.Test.YtbllfkgmnajliaaDoorHexPlain
namespace Go.Proofs.YtbllfkgmnajliaaDoor
open Go.RowKit
open Plain
set_option linter.unusedVariables false

end Go.Proofs.YtbllfkgmnajliaaDoor
