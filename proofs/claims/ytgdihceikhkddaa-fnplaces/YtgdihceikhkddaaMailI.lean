/- Mails: the program's MailOk, cutMail. -/
import Derived.Test.YtgdihceikhkddaaRunePlain
import Derived.Test.YtgdihceikhkddaaFlagA
namespace Go.Proofs.Ytgdihceikhkddaa
open Go.RowKit
open Plain
set_option linter.unusedVariables false

namespace Plain
end Plain

end Go.Proofs.Ytgdihceikhkddaa
