/- Mails: the program's MailOk, cutMail. -/
import Derived.Test.YtgdndjpiiahljaaRunePlain
import Derived.Test.YtgdndjpiiahljaaFlagA
namespace Go.Proofs.Ytgdndjpiiahljaa
open Go.RowKit
open Plain
set_option linter.unusedVariables false

namespace Plain
end Plain

end Go.Proofs.Ytgdndjpiiahljaa
