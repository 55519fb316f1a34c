/- Mails: the program's MailOk, cutMail. -/
import Derived.Test.YtgdihceikhkddaaDoorRunePlain
import Derived.Test.YtgdihceikhkddaaDoorFlagA
namespace Go.Proofs.YtgdihceikhkddaaDoor
open Go.RowKit
open Plain
set_option linter.unusedVariables false

namespace Plain
end Plain

end Go.Proofs.YtgdihceikhkddaaDoor
